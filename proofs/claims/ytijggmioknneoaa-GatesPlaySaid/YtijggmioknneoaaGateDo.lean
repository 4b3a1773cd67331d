/- package gates: Do. -/
import Derived.Test.YtijggmioknneoaaTellSay
import Derived.Test.YtijggmioknneoaaCpuRegs
namespace Go.Proofs.Ytijggmioknneoaa
open Go.ChangeShapes Go.WideShapes Go.ChangeAt Go.RowKit
set_option linter.unusedVariables false
set_option linter.unusedSimpArgs false

theorem SlotsAt.setFar {R : Nat → Prop} {w : World} {s n : Nat} {v : Int → Nat → Int} (H : SlotsAt R w s n v) {B o : Nat} (hB : R B) (u : Value) : SlotsAt R (w.setCell ⟨B, o, none⟩ u) s n v := by
  obtain ⟨bm, m, f, S, hm, hRs, hRb, hRB, hR⟩ := H
  have hk : ∀ k, ¬ R k → (w.setCell ⟨B, o, none⟩ u).heap[k]? = w.heap[k]? := fun k h => Below.heap_setCell w ⟨B, o, none⟩ u k (fun e => h (by rw [e]; exact hB))
  have hs : w.heap.size ≤ (w.setCell ⟨B, o, none⟩ u).heap.size := by simp [World.setCell]
  exact ⟨bm, m, f, S.of_blocks (fun k hk' => hk k (by rcases hk' with rfl | rfl | ⟨t, ht⟩; exact hRs; exact hRb; exact hRB t k ht)) hs, hm, hRs, hRb, hRB, fun k hk => Nat.lt_of_lt_of_le (hR k hk) hs⟩

theorem do_none (w : World) (C s : Nat) (t : Int) (say : Value) :
    Calls Try.prog 14 #[.int .i64 35, .pointer (some ⟨C, 0, none⟩), .pointer (some ⟨s, 0, none⟩), .int .i64 t, say] w fun e w' => e = .returned (.bool false) ∧ w' = w := by
  go_enter Try.func14, Try.ntmps14
  go_wp2
  go_ret
  exact ⟨rfl, rfl⟩

theorem do_say_nil (w : World) (C s : Nat) (t : Int) (r : Nat → Int) (h : CpuAt w C r) :
    Calls Try.prog 14 #[.int .i64 32, .pointer (some ⟨C, 0, none⟩), .pointer (some ⟨s, 0, none⟩), .int .i64 t, .nilFunc] w fun e w' => e = .returned (.bool true) ∧ Below w.heap.size w w' := by
  have HR := Lib.hid (reg_any w C 1 r (by omega) h)
  have HT := Lib.hid (tell_nil (r 1) w)
  clear h
  go_enter Try.func14, Try.ntmps14
  go_wp2_with fail
  refine HR.out.mono ?_
  rintro e w1 ⟨rfl, rfl⟩
  go_wp2_with fail
  refine HT.out.mono ?_
  rintro e w2 ⟨rfl, hb⟩
  have HB := Lib.hid hb
  clear hb
  go_wp2
  go_ret
  exact ⟨rfl, HB.out⟩

theorem do_say (w : World) (C s P : Nat) (t : Int) (r : Nat → Int) (h : CpuAt w C r) (hc : w.cell? ⟨P, 0, none⟩ = some (.slice none 0 0)) (hz : w.frozen? ⟨P, 0, none⟩ = false) :
    Calls Try.prog 14 #[.int .i64 32, .pointer (some ⟨C, 0, none⟩), .pointer (some ⟨s, 0, none⟩), .int .i64 t, .func (.func 15) #[] #[.pointer (some ⟨P, 0, none⟩)]] w fun e w' => e = .returned (.bool true) ∧ ∃ g cap, w.heap.size ≤ g ∧ w'.cell? ⟨P, 0, none⟩ = some (.slice (some ⟨g, 0, none⟩) 1 cap) ∧ w'.cell? ⟨g, 0, none⟩ = some (.int .u64 (r 1)) ∧ w.grownBy w' (some P) := by
  have HR := Lib.hid (reg_any w C 1 r (by omega) h)
  have HT := Lib.hid (tell_say (r 1) w P hc hz)
  clear h hc hz
  go_enter Try.func14, Try.ntmps14
  go_wp2_with fail
  refine HR.out.mono ?_
  rintro e w1 ⟨rfl, rfl⟩
  go_wp2_with fail
  refine HT.out.mono ?_
  rintro e w2 ⟨rfl, hb⟩
  have HB := Lib.hid hb
  clear hb
  go_wp2
  go_ret
  exact ⟨rfl, HB.out⟩

theorem do_get (R : Nat → Prop) (w : World) (C s n : Nat) (v : Int → Nat → Int) (t : Int) (r : Nat → Int) (say : Value) (ht : (Lit.int .i64 t).wf = true) (r0 : 0 ≤ r 1) (r1 : r 1 < 18446744073709551616) (h : CpuAt w C r) (H : SlotsAt R w s n v) :
    Calls Try.prog 14 #[.int .i64 33, .pointer (some ⟨C, 0, none⟩), .pointer (some ⟨s, 0, none⟩), .int .i64 t, say] w fun e w' => e = .returned (.bool true) ∧ w' = w.setCell ⟨C, 1 + 0, none⟩ (.int .u64 (getV v t (min (r 1) 32))) := by
  have HR := Lib.hid (reg_any w C 1 r (by omega) h)
  have HX := Lib.hid (index_any (r 1) r0 r1 w)
  have HG := Lib.hid (get_any R w s n v t (min (r 1) 32) ht H)
  have HS := Lib.hid (setReg_any w C 0 r (getV v t (min (r 1) 32)) (by omega) h)
  clear h H
  go_enter Try.func14, Try.ntmps14
  go_wp2_with fail
  refine HR.out.mono ?_
  rintro e w1 ⟨rfl, rfl⟩
  go_wp2_with fail
  refine HX.out.mono ?_
  rintro e w2 ⟨rfl, rfl⟩
  go_wp2_with fail
  refine HG.out.mono ?_
  rintro e w3 ⟨rfl, rfl⟩
  go_wp2_with fail
  refine HS.out.mono ?_
  rintro e w4 ⟨rfl, rfl⟩
  go_wp2
  go_ret
  exact ⟨rfl, rfl⟩
end Go.Proofs.Ytijggmioknneoaa
