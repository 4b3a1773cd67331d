/- package cpu: New, Reg, Set, IP, Jump, Flags, Fault. -/
import Derived.Test.YthbgmlmcjnlopaaMchP
namespace Go.Proofs.Ythbgmlmcjnlopaa
open Go.ChangeShapes Go.WideShapes Go.ChangeAt Go.RowKit
set_option linter.unusedVariables false
set_option linter.unusedSimpArgs false
set_option maxRecDepth 100000

/-- A machine at C. -/
def CpuM (w : World) (C M : Nat) (s : StV) (fk fa : Int) : Prop := Own w C 24 (cpuF M s fk fa)
def st0 : StV := ⟨fun _ => 0, 0, false, false, false, false⟩
theorem StOk.zero : StOk st0 := ⟨fun _ _ => ⟨Int.le_refl 0, by show (0 : Int) < _; omega⟩, ⟨Int.le_refl 0, by show (0 : Int) < _; omega⟩⟩
theorem CpuM.reg {w : World} {C M : Nat} {s : StV} {fk fa : Int} (h : CpuM w C M s fk fa) {i : Nat} (hi : i < 16) : w.cell? ⟨C, 1 + i, none⟩ = some (.int .u64 (s.r i)) ∧ w.frozen? ⟨C, 1 + i, none⟩ = false := by
  refine ⟨?_, Own.frozen h (by omega)⟩
  rw [Own.cell h (i := 1 + i) (by omega)]
  unfold cpuF stF
  rw [if_neg (by omega), if_pos (by omega), if_pos (by omega), show 1 + i - 1 = i by omega]
theorem CpuM.setR {w : World} {C M : Nat} {s : StV} {fk fa : Int} (h : CpuM w C M s fk fa) {i : Nat} (hi : i < 16) (v : Int) : CpuM (w.setCell ⟨C, 1 + i, none⟩ (.int .u64 v)) C M (s.setR i v) fk fa := by
  refine (Own.set h (i := 1 + i) (by omega) (.int .u64 v)).congr fun j hj => ?_
  unfold cpuF stF StV.setR
  by_cases e : j = 1 + i
  · subst e
    rw [if_pos rfl, if_neg (by omega), if_pos (by omega), if_pos (by omega)]
    simp only [show 1 + i - 1 = i by omega, if_pos]
  · rw [if_neg e]
    by_cases e0 : j = 0
    · rw [if_pos e0, if_pos e0]
    · have e1 : ¬ j - 1 = i := by omega
      simp only [if_neg e0, if_neg e1]
theorem CpuM.setIp {w : World} {C M : Nat} {s : StV} {fk fa : Int} (h : CpuM w C M s fk fa) (v : Int) : CpuM (w.setCell ⟨C, 17, none⟩ (.int .u64 v)) C M (s.setIp v) fk fa := by
  refine (Own.set h (i := 17) (by omega) (.int .u64 v)).congr fun j hj => ?_
  unfold cpuF stF StV.setIp
  by_cases e : j = 17
  · subst e; rfl
  · rw [if_neg e]
    have e1 : ¬ j - 1 = 16 := by omega
    simp only [if_neg e1]
theorem getReg_any (w : World) (C M : Nat) (s : StV) (fk fa : Int) (i : Nat) (hi : i < 16) (h : CpuM w C M s fk fa) :
    Calls Try.prog 18 #[.pointer (some ⟨C, 0, none⟩), .int .i64 i] w fun e w' => e = .returned (.int .u64 (s.r i)) ∧ w' = w := by
  have hc := (h.reg hi).1
  have e1 : decide ((i : Int) < 0) = false := decide_eq_false (by omega)
  have e2 : decide ((16 : Int) ≤ i) = false := decide_eq_false (by omega)
  go_enter Try.func18, Try.ntmps18
  go_wp2
  go_ret
  exact ⟨rfl, rfl⟩
theorem putReg_any (w : World) (C M : Nat) (s : StV) (fk fa : Int) (i : Nat) (x : Int) (hi : i < 16) (h : CpuM w C M s fk fa) :
    Calls Try.prog 16 #[.pointer (some ⟨C, 0, none⟩), .int .i64 i, .int .u64 x] w fun e w' => e = .returned (.tuple #[]) ∧ w' = w.setCell ⟨C, 1 + i, none⟩ (.int .u64 x) := by
  have hc := (h.reg hi).1
  have hz := (h.reg hi).2
  have e1 : decide ((0 : Int) ≤ i) = true := decide_eq_true (by omega)
  have e2 : decide ((i : Int) < 16) = true := decide_eq_true (by omega)
  go_enter Try.func16, Try.ntmps16
  go_wp2
  go_end0
  exact ⟨rfl, rfl⟩
theorem getIp_any (w : World) (C M : Nat) (s : StV) (fk fa : Int) (h : CpuM w C M s fk fa) :
    Calls Try.prog 20 #[.pointer (some ⟨C, 0, none⟩)] w fun e w' => e = .returned (.int .u64 s.ip) ∧ w' = w := by
  have hc : w.cell? ⟨C, 17, none⟩ = some (.int .u64 s.ip) := Own.cell h (i := 17) (by omega)
  go_enter Try.func20, Try.ntmps20
  go_wp2
  go_ret
  exact ⟨rfl, rfl⟩
theorem jump_any (w : World) (C M : Nat) (s : StV) (fk fa v : Int) (h : CpuM w C M s fk fa) :
    Calls Try.prog 28 #[.pointer (some ⟨C, 0, none⟩), .int .u64 v] w fun e w' => e = .returned (.tuple #[]) ∧ w' = w.setCell ⟨C, 17, none⟩ (.int .u64 v) := by
  have hc : w.cell? ⟨C, 17, none⟩ = some (.int .u64 s.ip) := Own.cell h (i := 17) (by omega)
  have hz : w.frozen? ⟨C, 17, none⟩ = false := Own.frozen h (by omega)
  go_enter Try.func28, Try.ntmps28
  go_wp2
  go_end0
  exact ⟨rfl, rfl⟩
theorem getFault_any (w : World) (C M : Nat) (s : StV) (fk fa : Int) (h : CpuM w C M s fk fa) :
    Calls Try.prog 29 #[.pointer (some ⟨C, 0, none⟩)] w fun e w' => e = .returned (.agg #[.int .i64 fk, .int .u64 fa]) ∧ Below w.heap.size w w' := by
  have hlt : C < w.heap.size := h.1
  have h0 : w.cell? ⟨C, 22, none⟩ = some (.int .i64 fk) := Own.cell h (i := 22) (by omega)
  have h1 : w.cell? ⟨C, 23, none⟩ = some (.int .u64 fa) := Own.cell h (i := 23) (by omega)
  go_enter Try.func29, Try.ntmps29
  go_wp2
  exact bodyPost_ret (v := .agg #[.int .i64 fk, .int .u64 fa]) (by simp [results, Try.results29, go_sem]) rfl ⟨rfl, by go_grown⟩
theorem getFlags_any (w : World) (C M : Nat) (s : StV) (fk fa : Int) (h : CpuM w C M s fk fa) :
    Calls Try.prog 21 #[.pointer (some ⟨C, 0, none⟩)] w fun e w' => e = .returned (.agg #[.bool s.z, .bool s.s, .bool s.c, .bool s.o]) ∧ Below w.heap.size w w' := by
  have hlt : C < w.heap.size := h.1
  have h0 : w.cell? ⟨C, 18, none⟩ = some (.bool s.z) := Own.cell h (i := 18) (by omega)
  have h1 : w.cell? ⟨C, 19, none⟩ = some (.bool s.s) := Own.cell h (i := 19) (by omega)
  have h2 : w.cell? ⟨C, 20, none⟩ = some (.bool s.c) := Own.cell h (i := 20) (by omega)
  have h3 : w.cell? ⟨C, 21, none⟩ = some (.bool s.o) := Own.cell h (i := 21) (by omega)
  go_enter Try.func21, Try.ntmps21
  go_wp2
  exact bodyPost_ret (v := .agg #[.bool s.z, .bool s.s, .bool s.c, .bool s.o]) (by simp [results, Try.results21, go_sem]) rfl ⟨rfl, by go_grown⟩
theorem makeCpu_any (w : World) (M : Nat) :
    Calls Try.prog 27 #[.pointer (some ⟨M, 0, none⟩)] w fun e w' => e = .returned (.pointer (some ⟨w.heap.size, 0, none⟩)) ∧ Below w.heap.size w w' ∧ CpuM w' w.heap.size M st0 0 0 := by
  go_enter Try.func27, Try.ntmps27
  go_wp2
  go_ret
  refine ⟨rfl, by go_grown, by simp, fun i hi => ?_⟩
  rcases (by omega : i = 0 ∨ i = 1 ∨ i = 2 ∨ i = 3 ∨ i = 4 ∨ i = 5 ∨ i = 6 ∨ i = 7 ∨ i = 8 ∨ i = 9 ∨ i = 10 ∨ i = 11 ∨ i = 12 ∨ i = 13 ∨ i = 14 ∨ i = 15 ∨ i = 16 ∨ i = 17 ∨ i = 18 ∨ i = 19 ∨ i = 20 ∨ i = 21 ∨ i = 22 ∨ i = 23) with rfl | rfl | rfl | rfl | rfl | rfl | rfl | rfl | rfl | rfl | rfl | rfl | rfl | rfl | rfl | rfl | rfl | rfl | rfl | rfl | rfl | rfl | rfl | rfl <;> exact ⟨by simp [go_sem, cpuF, stF, st0], by simp [go_sem]⟩

/-- A machine over a memory, beside what is older (R). -/
structure Box (R : Nat → Prop) (w0 w : World) (C M m : Nat) (most : Int) (mp : Int → Option Pg) (s : StV) (fk fa : Int) : Prop where
  mem : MemAt R w M m most mp
  cpu : CpuM w C M s fk fa
  rC : R C
  ok : MpOk mp
  sok : StOk s
  r0 : ∀ k, k < w0.heap.size → R k
  kept : Kept (· < w0.heap.size) w0 w
  cC : w0.heap.size ≤ C
namespace Box
variable {R : Nat → Prop} {w0 w w' : World} {C M m : Nat} {most : Int} {mp mp' : Int → Option Pg} {s s' : StV} {fk fa fk' fa' : Int}
theorem lt (h : Box R w0 w C M m most mp s fk fa) : ∀ k, R k → k < w.heap.size := h.mem.sz
/-- The machine's own cells turn. -/
theorem cell (h : Box R w0 w C M m most mp s fk fa) {o : Nat} {u : Value} (hc : CpuM (w.setCell ⟨C, o, none⟩ u) C M s' fk' fa') (hs : StOk s') : Box R w0 (w.setCell ⟨C, o, none⟩ u) C M m most mp s' fk' fa' :=
  ⟨h.mem.setFar h.rC _, hc, h.rC, h.ok, hs, h.r0, h.kept.trans ((Kept.refl _ w).setCell (fun e => by have := h.cC; have e' : C < w0.heap.size := e; omega) _), h.cC⟩
theorem setR (h : Box R w0 w C M m most mp s fk fa) {i : Nat} (hi : i < 16) {v : Int} (h0 : 0 ≤ v) (h1 : v < 18446744073709551616) : Box R w0 (w.setCell ⟨C, 1 + i, none⟩ (.int .u64 v)) C M m most mp (s.setR i v) fk fa := h.cell (h.cpu.setR hi v) (h.sok.setR h0 h1)
theorem setIp (h : Box R w0 w C M m most mp s fk fa) {v : Int} (h0 : 0 ≤ v) (h1 : v < 18446744073709551616) : Box R w0 (w.setCell ⟨C, 17, none⟩ (.int .u64 v)) C M m most mp (s.setIp v) fk fa := h.cell (h.cpu.setIp v) (h.sok.setIp h0 h1)
theorem below (h : Box R w0 w C M m most mp s fk fa) (hb : Below w.heap.size w w') : Box R w0 w' C M m most mp s fk fa :=
  ⟨h.mem.below hb, Own.below h.cpu hb (h.lt C h.rC), h.rC, h.ok, h.sok, h.r0, h.kept.trans (Kept.of_below hb (fun k hk => h.lt k (h.r0 k hk))), h.cC⟩
theorem memory (h : Box R w0 w C M m most mp s fk fa) (hm : MemAt R w' M m most mp') (hk : Kept R w w') (ho : MpOk mp') : Box R w0 w' C M m most mp' s fk fa :=
  ⟨hm, hk.own h.cpu h.rC, h.rC, ho, h.sok, h.r0, h.kept.trans (hk.mono h.r0), h.cC⟩
/-- A step was done. -/
theorem stepped (h : Box R w0 w C M m most mp s fk fa) {r : StepR} {e : Ending} (hq : StepQ R w C M m most r e w') (ho : MpOk r.mp) (hs : StOk r.s) : Box R w0 w' C M m most r.mp r.s r.k r.a :=
  ⟨hq.mem, hq.cpu, h.rC, ho, hs, h.r0, h.kept.trans (hq.kept.mono (fun k hk => ⟨h.r0 k hk, fun e => by have := h.cC; have hk' : k < w0.heap.size := hk; omega⟩)), h.cC⟩
end Box
/-- A step, whatever comes of it. -/
theorem stepBox {R : Nat → Prop} {w0 w : World} {C M m : Nat} {most : Int} {mp : Int → Option Pg} {s : StV} {fk fa : Int} (h : Box R w0 w C M m most mp s fk fa) (al : AlV)
    (hal : (fetchM mp s.ip 12 []).flt = false → (fetchM mp s.ip 12 []).e = 0 → AluD (fetchM mp s.ip 12 []).x (nextS s (fetchM mp s.ip 12 []).n) al) (r : StepR) (hr : stepM mp s fk fa al = r) (ho : MpOk r.mp) (hs : StOk r.s) :
    Calls Try.prog 17 #[.pointer (some ⟨C, 0, none⟩)] w fun e w' => e = .returned (.tuple #[.int .i64 r.n, .int .i64 r.e]) ∧ Box R w0 w' C M m most r.mp r.s r.k r.a :=
  (step_any R w C M m most mp s fk fa al h.ok h.sok h.mem h.cpu h.rC hal r hr).mono fun e w' hq => ⟨hq.e, h.stepped hq ho hs⟩
/-- A step at an instruction that lies there and can be done. -/
theorem stepM_done {mp mp' : Int → Option Pg} {s s' : StV} {fk fa : Int} {al : AlV} {F : Form} {x : InsV} (hf : fetchM mp s.ip 12 [] = ⟨false, mp, x, (encM F x).length, 0, 0, 0⟩) (hd : doM x (nextS s (encM F x).length) mp al = ⟨true, mp', s', 0, 0⟩) :
    stepM mp s fk fa al = ⟨if x.op = 23 then wrap64 (wrap64 x.imm + 256) else 0, 0, mp', s', fk, fa⟩ := by
  unfold stepM
  rw [hf]
  simp only [Bool.false_eq_true, if_false, ne_eq, not_true_eq_false]
  rw [hd]
  simp only [if_true]
end Go.Proofs.Ythbgmlmcjnlopaa
