/- The walk of the law FoldLetters. -/
import Derived.Test.YtclholeopgfakaaFoldBounds
namespace Go.Proofs.Ytclholeopgfakaa
open Go.ChangeShapes Go.WideShapes Go.ChangeAt Go.RowKit
set_option linter.unusedVariables false

theorem xor32_low {c : Int} (h1 : 97 ≤ c) (h2 : c ≤ 122) : bits BinOp.xor IntKind.u8 c 32 = c - 32 := by
  obtain ⟨x, rfl⟩ := Int.eq_ofNat_of_zero_le (show 0 ≤ c by omega)
  have h : ∀ a : Nat, a < 123 → 97 ≤ a → a ^^^ 32 = a - 32 := by decide
  have e := u8_xor (x : Int) 32 (by omega) (by omega) (by omega) (by omega)
  rw [e, show ((x : Int)).toNat = x from by omega, show ((32 : Int)).toNat = 32 from rfl, h x (by omega) (by omega)]
  omega
theorem xor32_up {c : Int} (h1 : 65 ≤ c) (h2 : c ≤ 90) : bits BinOp.xor IntKind.u8 c 32 = c + 32 := by
  obtain ⟨x, rfl⟩ := Int.eq_ofNat_of_zero_le (show 0 ≤ c by omega)
  have h : ∀ a : Nat, a < 91 → 65 ≤ a → a ^^^ 32 = a + 32 := by decide
  have e := u8_xor (x : Int) 32 (by omega) (by omega) (by omega) (by omega)
  rw [e, show ((x : Int)).toNat = x from by omega, show ((32 : Int)).toNat = 32 from rfl, h x (by omega) (by omega)]
  omega

/-- x is c in other letters. -/
def Alike (x c : Int) : Prop := lowB x = lowB c ∧ 0 ≤ x ∧ x ≤ 255 ∧ nameB x = true
theorem alike_self {c : Int} (h : nameB c = true) : Alike c c := by
  refine ⟨rfl, ?_, ?_, h⟩ <;> (simp [nameB] at h; omega)
theorem alike_low {c : Int} (h1 : 97 ≤ c) (h2 : c ≤ 122) : Alike (bits BinOp.xor IntKind.u8 c 32) c := by
  rw [xor32_low h1 h2]
  refine ⟨by unfold lowB; rw [if_pos (by omega), if_neg (by omega)]; omega, by omega, by omega, by simp [nameB]; omega⟩
theorem alike_up {c : Int} (h1 : 65 ≤ c) (h2 : c ≤ 90) : Alike (bits BinOp.xor IntKind.u8 c 32) c := by
  rw [xor32_up h1 h2]
  refine ⟨by unfold lowB; rw [if_neg (by omega), if_pos (by omega)], by omega, by omega, by simp [nameB]; omega⟩

def letF (S : ByteArray) (g : Nat → Int) (k j : Nat) : Value := .int .u8 (if j < k then g j else PlainAid.bt S j)

/-- What holds at the head of round k. -/
def FL (S : ByteArray) (w wr : World) (k : Nat) (p : Bool) : Prop :=
  ∃ g : Nat → Int, Own wr w.heap.size S.size (letF S g k) ∧ Below w.heap.size w wr ∧ (∀ j, j < k → Alike (g j) (PlainAid.bt S j)) ∧ (p = true ↔ ∃ j, j < k ∧ PlainAid.bt S j = 46)

theorem FL.cell {S : ByteArray} {w wr : World} {k : Nat} {p : Bool} (h : FL S w wr k p) (hk : k < S.size) : wr.cell? ⟨w.heap.size, k, none⟩ = some (.int .u8 (PlainAid.bt S k)) ∧ wr.frozen? ⟨w.heap.size, k, none⟩ = false := by
  obtain ⟨g, ho, _⟩ := h
  refine ⟨?_, ho.frozen hk⟩
  rw [ho.cell hk]
  unfold letF
  rw [if_neg (by omega)]

theorem FL.step {S : ByteArray} {w wr wr' : World} {k : Nat} {p p' : Bool} {x : Int} (h : FL S w wr k p) (hk : k < S.size) (hx : Alike x (PlainAid.bt S k))
    (hw : (wr' = wr ∧ x = PlainAid.bt S k) ∨ wr' = wr.setCell ⟨w.heap.size, k, none⟩ (.int .u8 x)) (hp : p' = (p || PlainAid.bt S k == 46)) : FL S w wr' (k + 1) p' := by
  obtain ⟨g, ho, hb, hg, hpp⟩ := h
  refine ⟨fun j => if j = k then x else g j, ?_, ?_, fun j hj => ?_, ?_⟩
  · rcases hw with ⟨rfl, rfl⟩ | rfl
    · refine ho.congr fun j hj => ?_
      unfold letF
      by_cases e : j = k
      · subst e; rw [if_neg (by omega), if_pos (by omega)]; simp
      · by_cases h3 : j < k
        · rw [if_pos h3, if_pos (by omega)]; simp [e]
        · rw [if_neg h3, if_neg (by omega)]
    · refine (ho.set hk _).congr fun j hj => ?_
      unfold letF
      by_cases e : j = k
      · subst e; rw [if_pos rfl, if_pos (by omega)]; simp
      · rw [if_neg e]
        by_cases h3 : j < k
        · rw [if_pos h3, if_pos (by omega)]; simp [e]
        · rw [if_neg h3, if_neg (by omega)]
  · rcases hw with ⟨rfl, _⟩ | rfl
    · exact hb
    · exact hb.setCell (Nat.le_refl _) _
  · show Alike (if j = k then x else g j) _
    by_cases e : j = k
    · subst e; rw [if_pos rfl]; exact hx
    · rw [if_neg e]; exact hg j (by omega)
  · rw [hp, Bool.or_eq_true, hpp, beq_iff_eq]
    constructor
    · rintro (⟨j, h1, h2⟩ | h)
      · exact ⟨j, by omega, h2⟩
      · exact ⟨k, by omega, h⟩
    · rintro ⟨j, h1, h2⟩
      by_cases e : j = k
      · subst e; exact .inr h2
      · exact .inl ⟨j, by omega, h2⟩

theorem lowB_idem (c : Int) : lowB (lowB c) = lowB c := by
  unfold lowB
  by_cases h : 65 ≤ c ∧ c ≤ 90
  · rw [if_pos h, if_neg (by omega)]
  · rw [if_neg h, if_neg h]

theorem lowT_cat (A B : ByteArray) : lowT (A ++ B) = lowT A ++ lowT B := by
  refine ext_bt (by rw [lowT_size, ByteArray.size_append, ByteArray.size_append, lowT_size, lowT_size]) fun i hi => ?_
  rw [lowT_size, ByteArray.size_append] at hi
  rw [lowT_bt (by rw [ByteArray.size_append]; exact hi), bt_cat, bt_cat, lowT_size]
  by_cases h : i < A.size
  · rw [if_pos h, if_pos h, lowT_bt h]
  · rw [if_neg h, if_neg h, lowT_bt (by omega)]

theorem lowT_low (A : ByteArray) : lowT (lowT A) = lowT A := by
  refine ext_bt (by rw [lowT_size]) fun i hi => ?_
  rw [lowT_size, lowT_size] at hi
  rw [lowT_bt (by rw [lowT_size]; exact hi), lowT_bt hi, lowB_idem]

theorem dot_cat (A : ByteArray) {B : ByteArray} (h : DotIn B) : DotIn (A ++ B) := by
  obtain ⟨i, hi, e⟩ := h
  refine ⟨A.size + i, by rw [ByteArray.size_append]; omega, ?_⟩
  rw [bt_cat, if_neg (by omega), show A.size + i - A.size = i by omega, e]

theorem key_ex (S : ByteArray) : ∃ K, KeyOf S K ∧ KeyOf K K := by
  by_cases h : DotIn S
  · refine ⟨lowT S, ⟨fun _ => rfl, fun hn => absurd h hn⟩, fun _ => (lowT_low S).symm, fun hn => absurd ((lowT_dot S).2 h) hn⟩
  · refine ⟨lowT S ++ dotDll, ⟨fun hd => absurd hd h, fun _ => rfl⟩, fun _ => ?_, fun hn => absurd (dot_cat (lowT S) ⟨0, by decide, by decide⟩) hn⟩
    rw [lowT_cat, lowT_low]
    congr 1

/-- Two names in other letters. -/
theorem key_alike {S T K : ByteArray} (hz : T.size = S.size) (h : ∀ j, j < S.size → lowB (PlainAid.bt T j) = lowB (PlainAid.bt S j)) (hK : KeyOf S K) : KeyOf T K := by
  have e : lowT T = lowT S := ext_bt (by rw [lowT_size, lowT_size, hz]) fun i hi => by
    rw [lowT_size] at hi
    rw [lowT_bt hi, lowT_bt (by omega), h i (by omega)]
  have hd : DotIn T ↔ DotIn S := by rw [← lowT_dot T, ← lowT_dot S, e]
  exact ⟨fun hT => by rw [e]; exact hK.1 (hd.1 hT), fun hT => by rw [e]; exact hK.2 (fun hS => hT (hd.2 hS))⟩

theorem key_dll {S T K : ByteArray} (hz : T.size = S.size) (h : ∀ j, j < S.size → lowB (PlainAid.bt T j) = lowB (PlainAid.bt S j)) (hK : KeyOf S K) (hn : ¬ DotIn S) : KeyOf (T ++ ⟨#[46, 68, 76, 76]⟩) K := by
  have e : lowT T = lowT S := ext_bt (by rw [lowT_size, lowT_size, hz]) fun i hi => by
    rw [lowT_size] at hi
    rw [lowT_bt hi, lowT_bt (by omega), h i (by omega)]
  refine ⟨fun _ => ?_, fun hd => absurd (dot_cat T ⟨0, by decide, by decide⟩) hd⟩
  rw [lowT_cat, e, hK.2 hn]
  congr 1

/-- The bit of turn that letter k asks. -/
def turnB (v : Int) (k : Nat) : Bool := bits BinOp.and IntKind.u64 (v / 2 ^ k) 1 == 1

set_option maxRecDepth 100000 in
set_option maxHeartbeats 4000000 in
theorem foldLetters_walk (S : ByteArray) (v : Int) (w : World) (hs : S.size ≤ 9223372036854775807) (v0 : 0 ≤ v) (v1 : v ≤ 18446744073709551615) :
    Calls Try.prog 10 #[.string S, .int .u64 v] w fun e w' => e = .returned (.bool true) ∧ Below w.heap.size w w' := by
  by_cases hok : OkName S
  · by_cases h36 : 36 < S.size
    · have h36' : (36 : Int) < S.size := by omega
      go_enter Try.func10, Try.ntmps10
      go_wp2_with (first | (go_at_call 23; refine (ok_yes _ _ hok).mono ?_; rintro e w' ⟨rfl, rfl⟩) | (go_at_call 25; refine (awake2 _).mono ?_; rintro e w6 ⟨rfl, hb6⟩))
      go_ret
      exact ⟨rfl, hb6⟩
    · have h36' : ¬ (36 : Int) < S.size := by omega
      have hcv := fun (W : World) => run_bytes_of_string (P := Try.prog) W 9 22 5 S Try.underlying9 Try.underlying22 Try.underlying5
      have hcap := grownCap_ge w S.size 0 5
      have hown0 := own_bytes w S (grownCap w S.size 0 5) (bytesRow S (grownCap w S.size 0 5)).size ((bytesRow S (grownCap w S.size 0 5)).size + 1) (by rw [bytesRow_size S _ hcap]; exact hcap)
      have hFL : FL S w ((w.alloc (.cells (bytesRow S (grownCap w S.size 0 5)) 5 ((bytesRow S (grownCap w S.size 0 5)).size, (bytesRow S (grownCap w S.size 0 5)).size + 1))).drew) 0 false :=
        ⟨fun _ => 0, (Own.drew hown0).congr fun j _ => by unfold letF; rw [if_neg (by omega)], ((Below.refl _ _).alloc (Nat.le_refl _) _).drew, fun j hj => by omega, by simp⟩
      have HF := Lib.hid hFL
      have hnb := hok.2.2
      have HOK := Lib.hid hok
      clear hown0 hok hFL
      go_enter Try.func10, Try.ntmps10
      go_wp2_with (go_at_call 23; refine (ok_yes _ _ HOK.out).mono ?_; rintro e w' ⟨rfl, rfl⟩)
      clear hcv
      go_loopw [6, 7] (fun pp i wr => ∃ (k : Nat) (p : Bool), k ≤ S.size ∧ pp = .bool p ∧ i = .int .i64 k ∧ FL S w wr k p) (fun _ i _ => S.size - (intOf i).toNat)
      case atStart => exact ⟨0, false, by omega, rfl, rfl, HF.out⟩
      case round =>
        obtain ⟨k, p, hk, rfl, rfl, hfl⟩ := hrel
        by_cases hlt : k < S.size
        · obtain ⟨hc, hz⟩ := hfl.cell hlt
          have hb1 := (bt255 S k).1
          have hb2 := (bt255 S k).2
          have hn := hnb k hlt
          have m63 : bits .and .i64 (k : Int) 63 = (k : Int) := by rw [and_63]; omega
          have HS := Lib.hid hfl
          clear hfl
          by_cases htb : (bits BinOp.and IntKind.u64 (v / 2 ^ k) 1 == 1) = true
          · by_cases hl : 97 ≤ PlainAid.bt S k ∧ PlainAid.bt S k ≤ 122
            · have hl1 := hl.1
              have hl2 := hl.2
              cases p
              case false =>
                have hdot : (PlainAid.bt S k == 46) = false := by simp; omega
                go_wp2
                go_roundw
                case rel => exact ⟨k + 1, false, by omega, rfl, by go_num, HS.out.step hlt (alike_low hl1 hl2) (.inr rfl) (by simp [hdot])⟩
                case measure => simp [intOf]; omega
              case true =>
                have hdot : (PlainAid.bt S k == 46) = false := by simp; omega
                go_wp2
                go_roundw
                case rel => exact ⟨k + 1, true, by omega, rfl, by go_num, HS.out.step hlt (alike_low hl1 hl2) (.inr rfl) (by simp [hdot])⟩
                case measure => simp [intOf]; omega
            · by_cases hu : 65 ≤ PlainAid.bt S k ∧ PlainAid.bt S k ≤ 90
              · have hl1 : ¬ 97 ≤ PlainAid.bt S k := by omega
                have hu1 := hu.1
                have hu2 := hu.2
                cases p
                case false =>
                  have hdot : (PlainAid.bt S k == 46) = false := by simp; omega
                  go_wp2
                  go_roundw
                  case rel => exact ⟨k + 1, false, by omega, rfl, by go_num, HS.out.step hlt (alike_up hu1 hu2) (.inr rfl) (by simp [hdot])⟩
                  case measure => simp [intOf]; omega
                case true =>
                  have hdot : (PlainAid.bt S k == 46) = false := by simp; omega
                  go_wp2
                  go_roundw
                  case rel => exact ⟨k + 1, true, by omega, rfl, by go_num, HS.out.step hlt (alike_up hu1 hu2) (.inr rfl) (by simp [hdot])⟩
                  case measure => simp [intOf]; omega
              · by_cases hl1 : 97 ≤ PlainAid.bt S k
                · have hl2 : ¬ PlainAid.bt S k ≤ 122 := by omega
                  have hu1 : 65 ≤ PlainAid.bt S k := by omega
                  have hu2 : ¬ PlainAid.bt S k ≤ 90 := by omega
                  exfalso
                  simp [nameB] at hn
                  omega
                · by_cases hu1 : 65 ≤ PlainAid.bt S k
                  · have hu2 : ¬ PlainAid.bt S k ≤ 90 := by omega
                    cases p
                    case false =>
                      by_cases hd : PlainAid.bt S k = 46
                      · have hdot : (PlainAid.bt S k == 46) = true := by simpa using hd
                        clear hd
                        go_wp2
                        go_roundw
                        case rel => exact ⟨k + 1, true, by omega, rfl, by go_num, HS.out.step hlt (alike_self hn) (.inl ⟨rfl, rfl⟩) (by simp [hdot])⟩
                        case measure => simp [intOf]; omega
                      · have hdot : (PlainAid.bt S k == 46) = false := by simpa using hd
                        clear hd
                        go_wp2
                        go_roundw
                        case rel => exact ⟨k + 1, false, by omega, rfl, by go_num, HS.out.step hlt (alike_self hn) (.inl ⟨rfl, rfl⟩) (by simp [hdot])⟩
                        case measure => simp [intOf]; omega
                    case true =>
                      by_cases hd : PlainAid.bt S k = 46
                      · have hdot : (PlainAid.bt S k == 46) = true := by simpa using hd
                        clear hd
                        go_wp2
                        go_roundw
                        case rel => exact ⟨k + 1, true, by omega, rfl, by go_num, HS.out.step hlt (alike_self hn) (.inl ⟨rfl, rfl⟩) (by simp [hdot])⟩
                        case measure => simp [intOf]; omega
                      · have hdot : (PlainAid.bt S k == 46) = false := by simpa using hd
                        clear hd
                        go_wp2
                        go_roundw
                        case rel => exact ⟨k + 1, true, by omega, rfl, by go_num, HS.out.step hlt (alike_self hn) (.inl ⟨rfl, rfl⟩) (by simp [hdot])⟩
                        case measure => simp [intOf]; omega
                  · skip
                    cases p
                    case false =>
                      by_cases hd : PlainAid.bt S k = 46
                      · have hdot : (PlainAid.bt S k == 46) = true := by simpa using hd
                        clear hd
                        go_wp2
                        go_roundw
                        case rel => exact ⟨k + 1, true, by omega, rfl, by go_num, HS.out.step hlt (alike_self hn) (.inl ⟨rfl, rfl⟩) (by simp [hdot])⟩
                        case measure => simp [intOf]; omega
                      · have hdot : (PlainAid.bt S k == 46) = false := by simpa using hd
                        clear hd
                        go_wp2
                        go_roundw
                        case rel => exact ⟨k + 1, false, by omega, rfl, by go_num, HS.out.step hlt (alike_self hn) (.inl ⟨rfl, rfl⟩) (by simp [hdot])⟩
                        case measure => simp [intOf]; omega
                    case true =>
                      by_cases hd : PlainAid.bt S k = 46
                      · have hdot : (PlainAid.bt S k == 46) = true := by simpa using hd
                        clear hd
                        go_wp2
                        go_roundw
                        case rel => exact ⟨k + 1, true, by omega, rfl, by go_num, HS.out.step hlt (alike_self hn) (.inl ⟨rfl, rfl⟩) (by simp [hdot])⟩
                        case measure => simp [intOf]; omega
                      · have hdot : (PlainAid.bt S k == 46) = false := by simpa using hd
                        clear hd
                        go_wp2
                        go_roundw
                        case rel => exact ⟨k + 1, true, by omega, rfl, by go_num, HS.out.step hlt (alike_self hn) (.inl ⟨rfl, rfl⟩) (by simp [hdot])⟩
                        case measure => simp [intOf]; omega
          · have htb : (bits BinOp.and IntKind.u64 (v / 2 ^ k) 1 == 1) = false := by simpa using htb
            cases p
            case false =>
              by_cases hd : PlainAid.bt S k = 46
              · have hdot : (PlainAid.bt S k == 46) = true := by simpa using hd
                clear hd
                go_wp2
                go_roundw
                case rel => exact ⟨k + 1, true, by omega, rfl, by go_num, HS.out.step hlt (alike_self hn) (.inl ⟨rfl, rfl⟩) (by simp [hdot])⟩
                case measure => simp [intOf]; omega
              · have hdot : (PlainAid.bt S k == 46) = false := by simpa using hd
                clear hd
                go_wp2
                go_roundw
                case rel => exact ⟨k + 1, false, by omega, rfl, by go_num, HS.out.step hlt (alike_self hn) (.inl ⟨rfl, rfl⟩) (by simp [hdot])⟩
                case measure => simp [intOf]; omega
            case true =>
              by_cases hd : PlainAid.bt S k = 46
              · have hdot : (PlainAid.bt S k == 46) = true := by simpa using hd
                clear hd
                go_wp2
                go_roundw
                case rel => exact ⟨k + 1, true, by omega, rfl, by go_num, HS.out.step hlt (alike_self hn) (.inl ⟨rfl, rfl⟩) (by simp [hdot])⟩
                case measure => simp [intOf]; omega
              · have hdot : (PlainAid.bt S k == 46) = false := by simpa using hd
                clear hd
                go_wp2
                go_roundw
                case rel => exact ⟨k + 1, true, by omega, rfl, by go_num, HS.out.step hlt (alike_self hn) (.inl ⟨rfl, rfl⟩) (by simp [hdot])⟩
                case measure => simp [intOf]; omega
        · obtain rfl : k = S.size := by omega
          obtain ⟨g, hown, hbel, hg, hpp⟩ := hfl
          obtain ⟨T, hTs, hTb, hTc⟩ : ∃ T : ByteArray, T.size = S.size ∧ (∀ j, j < S.size → Alike (PlainAid.bt T j) (PlainAid.bt S j)) ∧
              ∀ c : Nat, (convert 22 9 (.slice (some ⟨w.heap.size, 0, none⟩) S.size c)).run Try.prog wr = .ok (.string T) wr := by
            have h255 : Bytes255 (fun j => if j < S.size then g j else 0) := fun j => by
              show 0 ≤ (if j < S.size then g j else 0) ∧ (if j < S.size then g j else 0) ≤ 255
              split
              · rename_i h; exact ⟨(hg j h).2.1, (hg j h).2.2.1⟩
              · omega
            refine ⟨strF (fun j => if j < S.size then g j else 0) 0 S.size, strF_size _ _ _, fun j hj => ?_, fun c => run_str (own_row hown fun j hj => by unfold letF; simp [hj])⟩
            rw [bt_strF h255 hj, Nat.zero_add, if_pos hj]
            exact hg j hj
          obtain ⟨K, hK1, hK2⟩ := key_ex S
          have hKT : KeyOf T K := key_alike hTs (fun j hj => (hTb j hj).1) hK1
          have hTok : OkName T := ⟨by rw [hTs]; exact HOK.out.1, by rw [hTs]; exact HOK.out.2.1, fun j hj => (hTb j (by omega)).2.2.2⟩
          have hKz : K.size ≤ 140737488355328 := by
            by_cases hd : DotIn S
            · rw [hK1.1 hd, lowT_size]; omega
            · rw [hK1.2 hd, ByteArray.size_append, lowT_size]; have : dotDll.size = 4 := rfl; omega
          have hSz : S.size ≤ 140737488355328 := by omega
          have hTz : T.size ≤ 140737488355328 := by omega
          have hDz : (T ++ ⟨#[46, 68, 76, 76]⟩).size ≤ 140737488355328 := by rw [ByteArray.size_append]; have : (⟨#[46, 68, 76, 76]⟩ : ByteArray).size = 4 := rfl; omega
          have hadd := fun (W : World) => run_string_add_sum (P := Try.prog) W T ⟨#[46, 68, 76, 76]⟩ (by have : (⟨#[46, 68, 76, 76]⟩ : ByteArray).size = 4 := rfl; omega)
          have hdll : p = false → KeyOf (T ++ ⟨#[46, 68, 76, 76]⟩) K := fun hp => key_dll hTs (fun j hj => (hTb j hj).1) hK1 (fun hd => by
            obtain ⟨j, h1, h2⟩ := hd
            rw [hpp.2 ⟨j, h1, h2⟩] at hp; cases hp)
          have HK := Lib.hid (And.intro hK1 (And.intro hK2 (And.intro hKT hTok)))
          have HD := Lib.hid hdll
          clear hK1 hK2 hKT hTok hdll hTs hTb hg hpp hown
          go_wp2_with fail
          refine (same_yes S T K _ hSz hTz HK.out.1 HK.out.2.2.1).mono ?_
          rintro e w2 ⟨rfl, hb2⟩
          go_wp2_with fail
          refine (key_any S K _ hSz HK.out.1).mono ?_
          rintro e w3 ⟨rfl, hb3⟩
          go_wp2_with fail
          refine (key_any T K _ hTz HK.out.2.2.1).mono ?_
          rintro e w4 ⟨rfl, hb4⟩
          go_wp2_with fail
          refine (ok_yes T _ HK.out.2.2.2).mono ?_
          rintro e w' ⟨rfl, rfl⟩
          go_wp2_with fail
          refine (key_any S K _ hSz HK.out.1).mono ?_
          rintro e w5 ⟨rfl, hb5⟩
          go_wp2_with fail
          refine (key_any K K _ hKz HK.out.2.1).mono ?_
          rintro e w6 ⟨rfl, hb6⟩
          go_wp2_with fail
          refine (key_any S K _ hSz HK.out.1).mono ?_
          rintro e w7 ⟨rfl, hb7⟩
          have e2 := hbel.trans (hb2.mono hbel.size)
          have e3 := e2.trans (hb3.mono e2.size)
          have e4 := e3.trans (hb4.mono e3.size)
          have e5 := e4.trans (hb5.mono e4.size)
          have e6 := e5.trans (hb6.mono e5.size)
          have e7 := e6.trans (hb7.mono e6.size)
          clear e2 e3 e4 e5 e6 hb2 hb3 hb4 hb5 hb6 hb7 hbel
          cases p
          case true =>
            go_wp2_with (go_at_call 25; refine (awake2 _).mono ?_; rintro e w9 ⟨rfl, hb9⟩)
            go_ret
            exact ⟨rfl, e7.trans (hb9.mono e7.size)⟩
          case false =>
            go_wp2_with fail
            refine (same_yes S _ K _ hSz hDz HK.out.1 (HD.out (by simp))).mono ?_
            rintro e w8 ⟨rfl, hb8⟩
            have e8 := e7.trans (hb8.mono e7.size)
            clear e7 hb8
            go_wp2_with (go_at_call 25; refine (awake2 _).mono ?_; rintro e w9 ⟨rfl, hb9⟩)
            go_ret
            exact ⟨rfl, e8.trans (hb9.mono e8.size)⟩
  · go_enter Try.func10, Try.ntmps10
    go_wp2_with (first | (go_at_call 23; refine (ok_no _ _ hs hok).mono ?_; rintro e w' ⟨rfl, rfl⟩) | (go_at_call 25; refine (awake2 _).mono ?_; rintro e w6 ⟨rfl, hb6⟩))
    go_ret
    exact ⟨rfl, hb6⟩
end Go.Proofs.Ytclholeopgfakaa
