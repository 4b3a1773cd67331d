/- package tlsdir: Parse of what is none; SameTls of two that are the same. -/
import Derived.Test.YtcommphfjkggkaaTlsB
namespace Go.Proofs.Ytcommphfjkggkaa
open Go.ChangeShapes Go.WideShapes Go.ChangeAt Go.RowKit
set_option linter.unusedVariables false

set_option maxRecDepth 100000 in
theorem tls_none (A : Option Addr) (n cap : Nat) (s b : Int) (w : World) :
    Calls Try.prog 20 #[.slice A n cap, .agg #[.int .i64 0, .int .i64 s], .int .u64 b] w fun e w' =>
      e = .returned (.tuple #[.agg #[.bool false, .int .i64 0, .slice none 0 0], .int .i64 0]) ∧ Below w.heap.size w w' := by
  have HB0 := Lib.hid (((Below.refl w.heap.size w).alloc (Nat.le_refl _) (.cells #[.int .i64 0, .int .i64 s] 24)).alloc (by simp) (.cells #[.bool false, .int .i64 0, .slice none 0 0] 58))
  have HZ0 := Lib.hid (heap_alloc_new (w.alloc (.cells #[.int .i64 0, .int .i64 s] 24)) (.cells #[.bool false, .int .i64 0, .slice none 0 0] 58))
  have HZS := Lib.hid (show (w.alloc (.cells #[.int .i64 0, .int .i64 s] 24)).heap.size = w.heap.size + 1 by simp)
  rw [HZS.out] at HZ0
  go_enter Try.func20, Try.ntmps20
  go_wp2_with (refine wpList_store_row rfl 58 _ _ rfl (w.heap.size + 1) #[.bool false, .int .i64 0, .slice none 0 0] rfl rfl 58 _ HZ0.out rfl rfl (by simp [Value.oneCell']) ?_)
  refine bodyPost_ret (v := .tuple #[.agg #[.bool false, .int .i64 0, .slice none 0 0], .int .i64 0]) (results_cell_tmp rfl _ _ (w.heap.size + 1) 58 _ (0, 0) _ _ rfl rfl (setRow_heap _ _ _ _ _ _ HZ0.out) rfl rfl rfl) rfl ⟨rfl, below_setRow HB0.out (by omega) _⟩

set_option maxRecDepth 100000 in
set_option maxHeartbeats 1000000 in
theorem tls_bad (A : Option Addr) (n cap : Nat) (f : Nat → Int) (s b b2 v2 x : Int) (cs : List Int) (w : World) (hf : Bytes255 f) (hs : SlB w A n f) (hi : TlsI n f b x cs) (hv : (b + x - b2) % 18446744073709551616 = v2) (hbad : (n : Int) < v2 + 4) :
    Calls Try.prog 20 #[.slice A n cap, .agg #[.int .i64 16, .int .i64 s], .int .u64 b2] w fun e w' =>
      e = .returned (.tuple #[.agg #[.bool false, .int .i64 0, .slice none 0 0], .int .i64 12]) ∧ Below w.heap.size w w' := by
  have HS := Lib.hid hs
  have HF := Lib.hid hf
  have HI := Lib.hid hi
  have hlenA : 72 + 8 * cs.length ≤ n := Nat.le_of_eq hi.len.symm
  have hlenB : n ≤ 72 + 8 * cs.length := Nat.le_of_eq hi.len
  have hmost := hi.most
  have hb0 := hi.b0
  have hb1 := hi.b1
  have hx0 := hi.x0
  have hx1 := hi.x1
  clear hs hf hi
  have HB0 := Lib.hid (((Below.refl w.heap.size w).alloc (Nat.le_refl _) (.cells #[.int .i64 16, .int .i64 s] 24)).alloc (by simp) (.cells #[.bool false, .int .i64 0, .slice none 0 0] 58))
  have HIN := Lib.hid (fun W : World => rowIn_any A n cap 16 40 true W (by omega) (by omega) (by omega) ⟨fun _ => ⟨by omega, by omega, by omega⟩, fun _ => rfl⟩)
  obtain ⟨bb, off, rfl, hlt, hrow⟩ : ∃ b off, A = some ⟨b, off, none⟩ ∧ b < w.heap.size ∧ Row w b off n f := by
    rcases HS.out with h | h
    · omega
    · exact h
  have HROW := Lib.hid (show ∀ W, Below w.heap.size w W → Row W bb off n f from fun W hW => hrow.below hW hlt)
  have HZ0 := Lib.hid (heap_alloc_new (w.alloc (.cells #[.int .i64 16, .int .i64 s] 24)) (.cells #[.bool false, .int .i64 0, .slice none 0 0] 58))
  have HZS := Lib.hid (show (w.alloc (.cells #[.int .i64 16, .int .i64 s] 24)).heap.size = w.heap.size + 1 by simp)
  rw [HZS.out] at HZ0
  have HR2 := Lib.hid (HROW.out _ HB0.out)
  clear hrow hlt
  go_enter Try.func20, Try.ntmps20
  go_wp2_with (go_fit (HIN.out _); rintro e u ⟨rfl, rfl⟩)
  generalize (w.alloc (.cells #[.int .i64 16, .int .i64 s] 24)).alloc (.cells #[.bool false, .int .i64 0, .slice none 0 0] 58) = w2 at *
  have hu1 := u64_yes bb off n cap f 32 w2 (by omega) (by omega) HF.out HR2.out
  rw [HI.out.idx] at hu1
  have HU1 := Lib.hid hu1
  have HP := Lib.hid (fun W : World => place_no (some ⟨bb, off, none⟩) n cap v2 4 W (by omega) (by omega) (by omega) (by omega) (by omega) (by omega))
  have q1 : IntKind.u64.wrap (b + x - b2) = v2 := by rw [IntKind.wrap_u64]; exact hv
  clear hu1 hv
  refine HU1.out.mono ?_
  rintro e u ⟨rfl, rfl⟩
  go_wp2_with (first
    | (go_fit (HP.out _); rintro e u ⟨rfl, rfl⟩)
    | (refine wpList_store_row rfl 58 _ _ rfl (w.heap.size + 1) #[.bool false, .int .i64 0, .slice none 0 0] rfl rfl 58 _ HZ0.out rfl rfl (by simp [Value.oneCell']) ?_))
  refine bodyPost_ret (v := .tuple #[.agg #[.bool false, .int .i64 0, .slice none 0 0], .int .i64 12]) (results_cell_tmp rfl _ _ (w.heap.size + 1) 58 _ (0, 0) _ _ rfl rfl (setRow_heap _ _ _ _ _ _ HZ0.out) rfl rfl rfl) rfl ⟨rfl, below_setRow HB0.out (by omega) _⟩

theorem SlT.int {w : World} {L : Option Addr} {l : List Int} (h : SlT intC 1 w L l) {i : Nat} (hi : i < l.length) : ∃ b off, L = some ⟨b, off, none⟩ ∧ b < w.heap.size ∧ w.cell? ⟨b, off + i, none⟩ = some (.int .i64 l[i]) := by
  rcases h with h | ⟨b, off, rfl, hlt, hc⟩
  · rw [h] at hi; simp at hi
  · exact ⟨b, off, rfl, hlt, by have := hc i hi 0 _ (by simp [intC]; rfl); simpa using this⟩

set_option maxRecDepth 100000 in
theorem sameInts_eq (A B : Option Addr) (l : List Int) (ca cb : Nat) (w : World) (hA : SlT intC 1 w A l) (hB : SlT intC 1 w B l) (hl : l.length ≤ 1000000) :
    Calls Try.prog 40 #[.slice A l.length ca, .slice B l.length cb] w fun e w' => e = .returned (.bool true) ∧ ∃ d, w' = w.drewN d := by
  have HA := Lib.hid hA
  have HB := Lib.hid hB
  clear hA hB
  go_enter Try.func40, Try.ntmps40
  go_wp2_with fail
  go_loopw [5] (fun v wr => ∃ i : Nat, i ≤ l.length ∧ v = .int .i64 i ∧ ∃ d, wr = w.drewN d) (fun v _ => l.length - (intOf v).toNat)
  case atStart => exact ⟨0, by omega, rfl, 0, rfl⟩
  case round =>
    obtain ⟨i, hi, rfl, hd⟩ := hrel
    have HD := Lib.hid hd
    by_cases hlt : i < l.length
    · obtain ⟨b, off, rfl, _, q0⟩ := (show SlT intC 1 wr A l by obtain ⟨d, rfl⟩ := hd; exact HA.out).int hlt
      obtain ⟨b2, off2, rfl, _, s0⟩ := (show SlT intC 1 wr B l by obtain ⟨d, rfl⟩ := hd; exact HB.out).int hlt
      generalize l[i] = x at *
      have hz : (0 : Int) ≤ (i : Int) := by omega
      have hzl : (i : Int) < (l.length : Int) := by omega
      clear hd
      go_wp2_with fail
      go_quiet (fail)
      go_wp2_with fail
      go_roundw
      case rel => exact ⟨i + 1, by omega, by go_num, by obtain ⟨d, rfl⟩ := HD.out; exact ⟨_, by rw [World.drewN_drewN]⟩⟩
      case measure => simp [intOf]; omega
    · obtain rfl : i = l.length := by omega
      clear hd
      go_wp2_with fail
      go_ret
      exact ⟨rfl, HD.out⟩

set_option maxRecDepth 100000 in
theorem sameTls_eq (A B : Option Addr) (l : List Int) (ca cb : Nat) (x : Int) (w : World) (hA : SlT intC 1 w A l) (hB : SlT intC 1 w B l) (hl : l.length ≤ 1000000) :
    Calls Try.prog 22 #[.agg #[.bool true, .int .i64 x, .slice A l.length ca], .agg #[.bool true, .int .i64 x, .slice B l.length cb]] w fun e w' => e = .returned (.bool true) ∧ Below w.heap.size w w' := by
  have HB0 := Lib.hid (((Below.refl w.heap.size w).alloc (Nat.le_refl _) (.cells #[.bool true, .int .i64 x, .slice A l.length ca] 58)).alloc (by simp) (.cells #[.bool true, .int .i64 x, .slice B l.length cb] 58))
  have HSI := Lib.hid (sameInts_eq A B l ca cb ((w.alloc (.cells #[.bool true, .int .i64 x, .slice A l.length ca] 58)).alloc (.cells #[.bool true, .int .i64 x, .slice B l.length cb] 58)) (hA.below HB0.out) (hB.below HB0.out) hl)
  clear hA hB
  go_enter Try.func22, Try.ntmps22
  go_wp2_with fail
  go_fit HSI.out
  rintro e w2 ⟨rfl, d, rfl⟩
  go_wp2_with fail
  go_ret
  exact ⟨rfl, belD HB0.out d⟩
end Go.Proofs.Ytcommphfjkggkaa
