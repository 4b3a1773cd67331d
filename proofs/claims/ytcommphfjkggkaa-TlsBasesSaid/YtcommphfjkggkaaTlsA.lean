/- package tlsdir: place, callbacks. -/
import Derived.Test.YtcommphfjkggkaaRelApp2
import Derived.Test.YtcommphfjkggkaaRow
import Derived.BigQuiet
namespace Go.Proofs.Ytcommphfjkggkaa
open Go.ChangeShapes Go.WideShapes Go.ChangeAt Go.RowKit
set_option linter.unusedVariables false

theorem place_yes (A : Option Addr) (n cap : Nat) (v k : Int) (w : World) (hn : n ≤ 140737488355328) (v0 : 0 ≤ v) (k0 : 0 ≤ k) (k1 : k ≤ 1000) (h : v + k ≤ n) :
    Calls Try.prog 37 #[.slice A n cap, .int .u64 v, .int .i64 k] w fun e w' => e = .returned (.tuple #[.int .i64 v, .bool true]) ∧ w = w' := by
  have HIN := Lib.hid (fun W : World => rowIn_any A n cap v k true W (by omega) (by omega) (by omega) ⟨fun _ => ⟨v0, k0, by omega⟩, fun _ => rfl⟩)
  have h1 : ¬ (n : Int) < v := by omega
  have w1 : IntKind.u64.wrap (n : Int) = n := by rw [IntKind.wrap_u64]; omega
  have w2 : IntKind.i64.wrap v = v := by rw [IntKind.wrap_i64]; omega
  go_enter Try.func37, Try.ntmps37
  go_wp2_with (go_fit (HIN.out _); rintro e u ⟨rfl, rfl⟩)
  go_ret2
  exact ⟨rfl, rfl⟩

theorem place_no (A : Option Addr) (n cap : Nat) (v k : Int) (w : World) (hn : n ≤ 140737488355328) (v0 : 0 ≤ v) (v1 : v ≤ 18446744073709551615) (k0 : 0 ≤ k) (k1 : k ≤ 1000) (h : (n : Int) < v + k) :
    Calls Try.prog 37 #[.slice A n cap, .int .u64 v, .int .i64 k] w fun e w' => e = .returned (.tuple #[.int .i64 0, .bool false]) ∧ w = w' := by
  have w1 : IntKind.u64.wrap (n : Int) = n := by rw [IntKind.wrap_u64]; omega
  by_cases c : (n : Int) < v
  · go_enter Try.func37, Try.ntmps37
    go_wp2
    go_ret2
    exact ⟨rfl, rfl⟩
  · have HIN := Lib.hid (fun W : World => rowIn_any A n cap v k false W (by omega) (by omega) (by omega) ⟨(fun h => by cases h), fun h => by omega⟩)
    have w2 : IntKind.i64.wrap v = v := by rw [IntKind.wrap_i64]; omega
    go_enter Try.func37, Try.ntmps37
    go_wp2_with (go_fit (HIN.out _); rintro e u ⟨rfl, rfl⟩)
    go_ret2
    exact ⟨rfl, rfl⟩

/-- How many elements a slice has. -/
def lenOf : Value → Nat
  | .slice _ k _ => k
  | _ => 0
def intC (x : Int) : List Value := [.int .i64 x]
theorem intC_len (x : Int) : (intC x).length = 1 := rfl
theorem intC_one (x : Int) : ∀ u ∈ intC x, u.oneCell' = true := by
  intro u hu
  simp [intC] at hu
  subst hu; rfl
theorem infoInt : (Try.prog.info? 3).map (fun i => (i.zero, i.size, i.bytes)) = some (some (.int .i64 0), 1, 8) := by kernel_rfl

/-- An image with a directory at 16, made for the base b: where the index is, and the calls. -/
structure TlsI (n : Nat) (f : Nat → Int) (b x : Int) (cs : List Int) : Prop where
  len : n = 72 + 8 * cs.length
  most : cs.length ≤ 8
  b0 : 0 < b
  b1 : b ≤ 1000000000000000
  x0 : 0 ≤ x
  x1 : x ≤ 64
  idx : rdF f 32 8 = b + x
  tab : rdF f 40 8 = b + 64
  call : ∀ i (h : i < cs.length), rdF f (64 + 8 * i) 8 = b + cs[i] ∧ 0 ≤ cs[i] ∧ cs[i] ≤ 64
  fin : rdF f (64 + 8 * cs.length) 8 = 0

set_option maxRecDepth 100000 in
set_option maxHeartbeats 1000000 in
theorem callbacks_any (A : Option Addr) (n cap : Nat) (f : Nat → Int) (b x : Int) (cs : List Int) (w : World) (hf : Bytes255 f) (hs : SlB w A n f) (hi : TlsI n f b x cs) :
    Calls Try.prog 38 #[.slice A n cap, .int .u64 (b + 64), .int .u64 b] w fun e w' =>
      (∃ L c, e = .returned (.tuple #[.slice L cs.length c, .bool true]) ∧ OwnT intC 1 w' w.heap.size 3 (.slice L cs.length c) cs) ∧ Below w.heap.size w w' := by
  have HS := Lib.hid hs
  have HF := Lib.hid hf
  have HI := Lib.hid hi
  have hlenA : 72 + 8 * cs.length ≤ n := Nat.le_of_eq hi.len.symm
  have hlenB : n ≤ 72 + 8 * cs.length := Nat.le_of_eq hi.len
  have hmost := hi.most
  have hb0 := hi.b0
  have hb1 := hi.b1
  have e0 : (b + 64 == 0) = false := by rw [beq_eq_false_iff_ne]; omega
  clear hs hf hi
  go_enter Try.func38, Try.ntmps38
  go_wp2_with fail
  have HO0 := Lib.hid (OwnT.made (C := intC) (sz := 1) w w.heap.size (Nat.le_refl _) 3)
  have HB0 := Lib.hid ((Below.refl w.heap.size w).alloc (Nat.le_refl _) (.cells #[] 3))
  generalize w.alloc (.cells #[] 3) = w1 at HO0 HB0 ⊢
  go_loopw [8] (fun v8 wr => ∃ (i : Nat) (L : Option Addr) (c : Nat), i ≤ cs.length ∧ v8 = .slice L (cs.take i).length c ∧ OwnT intC 1 wr w.heap.size 3 (.slice L (cs.take i).length c) (cs.take i) ∧ Below w.heap.size w wr) (fun v8 _ => 9 - lenOf v8)
  case atStart => exact ⟨0, _, 0, by omega, rfl, HO0.out, HB0.out⟩
  case round =>
    obtain ⟨i, L, c, hi, rfl, hown, hbw⟩ := hrel
    have hlen2 : (cs.take i).length = i := by rw [List.length_take]; omega
    rw [hlen2] at hown ⊢
    have HOWN := Lib.hid hown
    have HBW := Lib.hid hbw
    have HL2 := Lib.hid hlen2
    clear hown hbw HO0 HB0 hlen2
    obtain ⟨bb, off, hA, hlt, hrow⟩ : ∃ b off, A = some ⟨b, off, none⟩ ∧ b < wr.heap.size ∧ Row wr b off n f := by
      rcases HS.out.below HBW.out with h | h
      · omega
      · exact h
    subst hA
    have HP := Lib.hid (fun W : World => place_yes (some ⟨bb, off, none⟩) n cap (64 + 8 * (i : Int)) 8 W (by omega) (by omega) (by omega) (by omega) (by omega))
    have hu := u64_yes bb off n cap f (64 + 8 * i) wr (by omega) (by omega) HF.out hrow
    rw [show ((64 + 8 * i : Nat) : Int) = 64 + 8 * (i : Int) by omega] at hu
    have HU := Lib.hid hu
    have q1 : IntKind.u64.wrap (b + 64 - b) = 64 := by rw [IntKind.wrap_u64]; omega
    have q2 : IntKind.u64.wrap (i : Int) = i := by rw [IntKind.wrap_u64]; omega
    have q3 : IntKind.u64.wrap ((i : Int) * 8) = (i : Int) * 8 := by rw [IntKind.wrap_u64]; omega
    have q4 : IntKind.u64.wrap (64 + (i : Int) * 8) = 64 + 8 * (i : Int) := by rw [IntKind.wrap_u64]; omega
    clear hu hrow
    by_cases hlt2 : i < cs.length
    · obtain ⟨k1, k2, k3⟩ := HI.out.call i hlt2
      rw [k1] at HU
      have htk := List.take_succ_eq_append_getElem hlt2
      have HTK := Lib.hid htk
      generalize cs[i] = v at *
      have HV := Lib.hid (fun W : World => place_yes (some ⟨bb, off, none⟩) n cap v 1 W (by omega) k2 (by omega) (by omega) (by omega))
      have q5 : IntKind.u64.wrap (b + v - b) = v := by rw [IntKind.wrap_u64]; omega
      have q6 : (b + v == 0) = false := by rw [beq_eq_false_iff_ne]; omega
      have q7 : ((i : Int) == 8) = false := by rw [beq_eq_false_iff_ne]; omega
      have HO3 := Lib.hid (heap_alloc_new wr (.cells #[.int .i64 v] 3))
      have HOW2 := Lib.hid (HOWN.out.alloc (.cells #[.int .i64 v] 3))
      have HS1 := Lib.hid (show (wr.alloc (.cells #[.int .i64 v] 3)).heap.size = wr.heap.size + 1 by simp)
      clear htk k1
      generalize cs.take i = TK at *
      have hca : ∀ j u, (intC v)[j]? = some u → (wr.alloc (.cells #[.int .i64 v] 3)).cell? ⟨wr.heap.size, j, none⟩ = some u := fun j u hu => by
        rw [cell_of_row _ _ _ _ _ _ HO3.out]
        rcases j with _ | j
        · simpa [intC] using hu
        · simp [intC] at hu
      have HCA := Lib.hid hca
      clear hca
      go_wp2_with (first
        | (go_fit (HP.out _); rintro e u ⟨rfl, rfl⟩)
        | (go_fit HU.out; rintro e u ⟨rfl, rfl⟩)
        | (go_fit (HV.out _); rintro e u ⟨rfl, rfl⟩)
        | (at_builtin; refine wpList_appT rfl (.tmp 56) (.tmp 58) 56 rfl w.heap.size 3 (.int .i64 0) 8 (by kernel_rfl) infoInt rfl (by omega) intC_len intC_one (.slice L i c) TK rfl HOW2.out wr.heap.size 1 rfl v HCA.out (by have := HL2.out; unfold maxLen; omega) (by have := HL2.out; omega) (by have := HS1.out; have := HBW.out.size; omega) ?_; intro g' cap2 w3 hown3 hg3 hat3))
      have HB3 := Lib.hid (HOW2.out.grew (HBW.out.alloc HBW.out.size (.cells #[.int .i64 v] 3)) (Nat.le_refl _) (by have := HBW.out.size; have := HS1.out; omega) hg3)
      go_roundw
      case rel => exact ⟨i + 1, some ⟨g', 0, none⟩, cap2, by omega, by rw [HTK.out, List.length_append]; rfl, by rw [HTK.out, List.length_append]; exact hown3, HB3.out⟩
      case measure => have := HL2.out; simp only [lenOf]; omega
    · obtain rfl : i = cs.length := by omega
      rw [HI.out.fin] at HU
      have HT := Lib.hid (show cs.take cs.length = cs from List.take_length)
      rw [HT.out] at HOWN
      go_wp2_with (first
        | (go_fit (HP.out _); rintro e u ⟨rfl, rfl⟩)
        | (go_fit HU.out; rintro e u ⟨rfl, rfl⟩))
      go_ret2
      exact ⟨⟨L, c, rfl, HOWN.out⟩, HBW.out⟩
end Go.Proofs.Ytcommphfjkggkaa
