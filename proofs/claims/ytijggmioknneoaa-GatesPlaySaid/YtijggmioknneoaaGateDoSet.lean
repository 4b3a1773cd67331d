/- package gates: Do: set. -/
import Derived.Test.YtijggmioknneoaaGateDo
namespace Go.Proofs.Ytijggmioknneoaa
open Go.ChangeShapes Go.WideShapes Go.ChangeAt Go.RowKit
set_option linter.unusedVariables false
set_option linter.unusedSimpArgs false

theorem Kept.setOut {R : Nat → Prop} (w : World) (C o : Nat) (u : Value) : Kept (fun k => R k ∧ k ≠ C) w (w.setCell ⟨C, o, none⟩ u) :=
  ⟨rfl, rfl, rfl, by simp [World.setCell], fun k hk => Below.heap_setCell w ⟨C, o, none⟩ u k hk.2⟩

theorem do_set_no (w : World) (C s : Nat) (t : Int) (r : Nat → Int) (say : Value) (r0 : 0 ≤ r 1) (r1 : r 1 < 18446744073709551616) (h : CpuAt w C r) (hno : ¬ (0 < t ∧ r 1 < 32)) :
    Calls Try.prog 14 #[.int .i64 34, .pointer (some ⟨C, 0, none⟩), .pointer (some ⟨s, 0, none⟩), .int .i64 t, say] w fun e w' => e = .returned (.bool true) ∧ w' = w.setCell ⟨C, 1 + 0, none⟩ (.int .u64 0) := by
  have h1 := h.set (i := 0) (by omega) 0
  have HS := Lib.hid (setReg_any w C 0 r 0 (by omega) h)
  have HR := Lib.hid (show Calls Try.prog 16 #[.pointer (some ⟨C, 0, none⟩), .int .i64 ((1 : Nat) : Int)] (w.setCell ⟨C, 1 + 0, none⟩ (.int .u64 0)) fun e w' => e = .returned (.int .u64 (r 1)) ∧ w' = w.setCell ⟨C, 1 + 0, none⟩ (.int .u64 0) from reg_any _ C 1 (fun j => if j = 0 then 0 else r j) (by omega) h1)
  have HR2 := Lib.hid (show Calls Try.prog 16 #[.pointer (some ⟨C, 0, none⟩), .int .i64 ((2 : Nat) : Int)] (w.setCell ⟨C, 1 + 0, none⟩ (.int .u64 0)) fun e w' => e = .returned (.int .u64 (r 2)) ∧ w' = w.setCell ⟨C, 1 + 0, none⟩ (.int .u64 0) from reg_any _ C 2 (fun j => if j = 0 then 0 else r j) (by omega) h1)
  have HX := Lib.hid (index_any (r 1) r0 r1 (w.setCell ⟨C, 1 + 0, none⟩ (.int .u64 0)))
  have HN := Lib.hid (set_no (w.setCell ⟨C, 1 + 0, none⟩ (.int .u64 0)) s t (min (r 1) 32) (r 2) (by omega))
  clear h h1 hno
  generalize w.setCell ⟨C, 1 + 0, none⟩ (.int .u64 0) = w2 at *
  go_enter Try.func14, Try.ntmps14
  go_wp2_with fail
  refine HS.out.mono ?_
  rintro e w1 ⟨rfl, rfl⟩
  go_wp2_with fail
  refine HR.out.mono ?_
  rintro e w3 ⟨rfl, rfl⟩
  go_wp2_with fail
  refine HX.out.mono ?_
  rintro e w4 ⟨rfl, rfl⟩
  go_wp2_with fail
  refine HR2.out.mono ?_
  rintro e w5 ⟨rfl, rfl⟩
  go_wp2_with fail
  refine HN.out.mono ?_
  rintro e w6 ⟨rfl, rfl⟩
  go_wp2
  go_ret
  exact ⟨rfl, rfl⟩

theorem do_set_yes (R : Nat → Prop) (w : World) (C s n i : Nat) (v : Int → Nat → Int) (t : Int) (r : Nat → Int) (say : Value) (ht : (Lit.int .i64 t).wf = true) (h0 : 0 < t) (hi : r 1 = i) (h32 : i < 32) (hn : n < maxLen) (hRC : R C) (h : CpuAt w C r) (H : SlotsAt R w s n v) :
    Calls Try.prog 14 #[.int .i64 34, .pointer (some ⟨C, 0, none⟩), .pointer (some ⟨s, 0, none⟩), .int .i64 t, say] w fun e w' => e = .returned (.bool true) ∧ SlotsAt R w' s (n + 1) (putV v t i (r 2)) ∧ CpuAt w' C (fun j => if j = 0 then 1 else r j) ∧ Kept (fun k => R k ∧ k ≠ C) w w' := by
  have h1 := h.set (i := 0) (by omega) 0
  have HC1 := Lib.hid h1
  have HS := Lib.hid (setReg_any w C 0 r 0 (by omega) h)
  have hK1 := Kept.setOut (R := R) w C (1 + 0) (.int .u64 0)
  have HK1 := Lib.hid hK1
  have HR := Lib.hid (show Calls Try.prog 16 #[.pointer (some ⟨C, 0, none⟩), .int .i64 ((1 : Nat) : Int)] (w.setCell ⟨C, 1 + 0, none⟩ (.int .u64 0)) fun e w' => e = .returned (.int .u64 i) ∧ w' = w.setCell ⟨C, 1 + 0, none⟩ (.int .u64 0) from by rw [← hi]; exact reg_any _ C 1 (fun j => if j = 0 then 0 else r j) (by omega) h1)
  have HR2 := Lib.hid (show Calls Try.prog 16 #[.pointer (some ⟨C, 0, none⟩), .int .i64 ((2 : Nat) : Int)] (w.setCell ⟨C, 1 + 0, none⟩ (.int .u64 0)) fun e w' => e = .returned (.int .u64 (r 2)) ∧ w' = w.setCell ⟨C, 1 + 0, none⟩ (.int .u64 0) from reg_any _ C 2 (fun j => if j = 0 then 0 else r j) (by omega) h1)
  have HX := Lib.hid (index_any (i : Int) (by omega) (by omega) (w.setCell ⟨C, 1 + 0, none⟩ (.int .u64 0)))
  rw [show min (i : Int) 32 = i by omega] at HX
  have HY := Lib.hid (set_yes R (w.setCell ⟨C, 1 + 0, none⟩ (.int .u64 0)) s n v t (r 2) i ht h0 h32 hn (H.setFar hRC _))
  have HRC := Lib.hid hRC
  clear h h1 H hK1 hRC
  generalize w.setCell ⟨C, 1 + 0, none⟩ (.int .u64 0) = w2 at *
  go_enter Try.func14, Try.ntmps14
  go_wp2_with fail
  refine HS.out.mono ?_
  rintro e w1 ⟨rfl, rfl⟩
  clear HS
  go_wp2_with fail
  refine HR.out.mono ?_
  rintro e w3 ⟨rfl, rfl⟩
  go_wp2_with fail
  refine HX.out.mono ?_
  rintro e w4 ⟨rfl, rfl⟩
  go_wp2_with fail
  refine HR2.out.mono ?_
  rintro e w5 ⟨rfl, rfl⟩
  go_wp2_with fail
  refine HY.out.mono ?_
  rintro e w6 ⟨rfl, h6, k6⟩
  have hc6 : CpuAt w6 C (fun j => if j = 0 then 0 else r j) := HC1.out.of_block (k6.block C HRC.out) k6.size
  have HS6 := Lib.hid (setReg_any w6 C 0 _ 1 (by omega) hc6)
  have H6 := Lib.hid (h6.setFar (o := 1 + 0) HRC.out (.int .u64 1))
  have C6 := Lib.hid (hc6.set (i := 0) (by omega) 1)
  have K6 := Lib.hid ((HK1.out.trans (k6.mono (fun k hk => hk.1))).trans (Kept.setOut (R := R) w6 C (1 + 0) (.int .u64 1)))
  clear h6 k6 hc6
  go_wp2_with fail
  refine HS6.out.mono ?_
  rintro e w7 ⟨rfl, rfl⟩
  clear HS6
  generalize w6.setCell ⟨C, 1 + 0, none⟩ (.int .u64 1) = w8 at *
  go_wp2
  go_ret
  refine ⟨rfl, H6.out, ?_, K6.out⟩
  have := C6.out
  refine ⟨this.1, fun j hj => ?_⟩
  have h2 := this.2 j hj
  by_cases e : j = 0
  · simpa [e] using h2
  · simpa [e] using h2
end Go.Proofs.Ytijggmioknneoaa
