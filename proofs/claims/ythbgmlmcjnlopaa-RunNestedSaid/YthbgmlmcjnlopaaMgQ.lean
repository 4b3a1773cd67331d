/- package cpu: what is reckoned, as a function. · package cpu: whatever is stepped, a memory stays one, and a state. · package cpu: blocks beside a machine. · package run: fuel. · package run: pass: the gate is asked. · package run: what a call comes to. · package run: Call, against callM. -/
import Derived.Test.YthbgmlmcjnlopaaMgG
import Derived.Test.YthbgmlmcjnlopaaMgD
import Derived.Test.YthbgmlmcjnlopaaMchT
import Derived.Test.YthbgmlmcjnlopaaMgF
import Derived.Test.YthbgmlmcjnlopaaMgC
import Derived.Test.YthbgmlmcjnlopaaMgA
import Derived.Laws.Externs
import Derived.Conc.AtomicLaws2
import Derived.Defers
import Derived.Recover
namespace Go.Proofs.Ythbgmlmcjnlopaa
open Go.ChangeShapes Go.WideShapes Go.ChangeAt Go.RowKit
set_option linter.unusedVariables false
set_option linter.unusedSimpArgs false

def fAdd (a b v : Int) : Bool × Bool × Bool × Bool := (v == 0, hiB v, (a + b) / 18446744073709551616 != 0, (hiB a != hiB v) && (hiB b != hiB v))
def fSub (a b v : Int) : Bool × Bool × Bool × Bool := (v == 0, hiB v, decide (a < b), (hiB a != hiB b) && (hiB a != hiB v))
def mkA (v : Int) (f : Bool × Bool × Bool × Bool) : AlV := ⟨v, f.1, f.2.1, f.2.2.1, f.2.2.2⟩
def mkC (v : Int) (f : Bool × Bool × Bool × Bool) (c : Bool) : AlV := ⟨v, f.1, f.2.1, c, f.2.2.2⟩
def mkL (r v : Int) : AlV := ⟨r, v == 0, hiB v, false, false⟩
/-- What is reckoned. -/
def aluF (op a b : Int) (z s c o : Bool) : AlV :=
  if op = 0 then mkA ((a + b) % 18446744073709551616) (fAdd a b ((a + b) % 18446744073709551616))
  else if op = 1 then mkA (IntKind.u64.wrap (a - b)) (fSub a b (IntKind.u64.wrap (a - b)))
  else if op = 2 then mkL (bits .and .u64 a b) (bits .and .u64 a b)
  else if op = 3 then mkL (bits .or .u64 a b) (bits .or .u64 a b)
  else if op = 4 then mkL (bits .xor .u64 a b) (bits .xor .u64 a b)
  else if op = 5 then mkC ((a + 1) % 18446744073709551616) (fAdd a 1 ((a + 1) % 18446744073709551616)) c
  else if op = 6 then mkC (IntKind.u64.wrap (a - 1)) (fSub a 1 (IntKind.u64.wrap (a - 1))) c
  else if op = 7 then mkA a (fSub a b (IntKind.u64.wrap (a - b)))
  else if op = 8 then mkL a (bits .and .u64 a b)
  else if op = 9 then (if b % 64 = 0 then ⟨a, z, s, c, o⟩ else ⟨IntKind.u64.wrap (a * 2 ^ (b % 64).toNat), IntKind.u64.wrap (a * 2 ^ (b % 64).toNat) == 0, hiB (IntKind.u64.wrap (a * 2 ^ (b % 64).toNat)), a / 2 ^ (64 - b % 64).toNat % 2 != 0, false⟩)
  else if op = 10 then (if b % 64 = 0 then ⟨a, z, s, c, o⟩ else ⟨a / 2 ^ (b % 64).toNat, a / 2 ^ (b % 64).toNat == 0, hiB (a / 2 ^ (b % 64).toNat), a / 2 ^ ((b % 64).toNat - 1) % 2 != 0, false⟩)
  else ⟨a, z, s, c, o⟩
def AluG (op a b : Int) (z s c o : Bool) (r : AlV) : Prop := Word r.v ∧ AluR op a b z s c o r.v r.z r.s r.c r.o
set_option maxHeartbeats 1000000 in
theorem aluF_ok (op a b : Int) (z s c o : Bool) (ha : Word a) (hb : Word b) : AluG op a b z s c o (aluF op a b z s c o) := by
  have a0 := ha.low
  have a1 := ha.high
  have b0 := hb.low
  have b1 := hb.high
  have w1 : Word 1 := ⟨by omega, by omega⟩
  have ws : Word ((a + b) % 18446744073709551616) := ⟨by omega, by omega⟩
  have wi : Word ((a + 1) % 18446744073709551616) := ⟨by omega, by omega⟩
  have wd : Word (IntKind.u64.wrap (a - b)) := word_wrap _
  have we : Word (IntKind.u64.wrap (a - 1)) := word_wrap _
  have wa := word_and ha hb
  have wo := word_or ha hb
  have wx := word_xor ha hb
  unfold aluF
  by_cases h0 : op = 0
  · subst h0; rw [if_pos rfl]
    exact ⟨ws, fun w => do_add a b _ _ _ _ _ _ _ _ _ w ha hb ws rfl rfl⟩
  rw [if_neg h0]
  by_cases h1 : op = 1
  · subst h1; rw [if_pos rfl]
    exact ⟨wd, fun w => do_sub a b _ _ _ _ _ _ _ _ _ w ha hb wd rfl rfl⟩
  rw [if_neg h1]
  by_cases h2 : op = 2
  · subst h2; rw [if_pos rfl]
    exact ⟨wa, fun w => do_and a b _ _ _ _ _ _ _ w ha hb wa (Lib.hid rfl) rfl rfl⟩
  rw [if_neg h2]
  by_cases h3 : op = 3
  · subst h3; rw [if_pos rfl]
    exact ⟨wo, fun w => do_or a b _ _ _ _ _ _ _ w ha hb wo (Lib.hid rfl) rfl rfl⟩
  rw [if_neg h3]
  by_cases h4 : op = 4
  · subst h4; rw [if_pos rfl]
    exact ⟨wx, fun w => do_xor a b _ _ _ _ _ _ _ w ha hb wx (Lib.hid rfl) rfl rfl⟩
  rw [if_neg h4]
  by_cases h5 : op = 5
  · subst h5; rw [if_pos rfl]
    exact ⟨wi, fun w => do_inc a b _ _ _ _ _ _ _ _ _ w ha w1 wi rfl rfl⟩
  rw [if_neg h5]
  by_cases h6 : op = 6
  · subst h6; rw [if_pos rfl]
    exact ⟨we, fun w => do_dec a b _ _ _ _ _ _ _ _ _ w ha w1 we rfl rfl⟩
  rw [if_neg h6]
  by_cases h7 : op = 7
  · subst h7; rw [if_pos rfl]
    exact ⟨ha, fun w => do_cmp a b _ _ _ _ _ _ _ _ _ w ha hb wd rfl rfl⟩
  rw [if_neg h7]
  by_cases h8 : op = 8
  · subst h8; rw [if_pos rfl]
    exact ⟨ha, fun w => do_test a b _ _ _ _ _ _ _ w ha hb wa (Lib.hid rfl) rfl rfl⟩
  rw [if_neg h8]
  have f := fun (k : Int) (h : ¬ op = k) => beq_eq_false_iff_ne.2 h
  obtain ⟨n, hn⟩ : ∃ n : Int, b % 64 = n := ⟨_, rfl⟩
  by_cases h9 : op = 9
  · subst h9; rw [if_pos rfl, hn]
    by_cases hz : n = 0
    · subst hz; rw [if_pos rfl]
      exact ⟨ha, fun w => do_shl a b 0 a _ _ _ _ _ _ _ _ w hb (by omega) (by omega) (Lib.hid hn) (Lib.hid fun w => shift_z 9 a _ _ _ _ w)⟩
    · rw [if_neg hz]
      exact ⟨word_wrap _, fun w => do_shl a b n _ _ _ _ _ _ _ _ _ w hb (by omega) (by omega) (Lib.hid hn) (Lib.hid fun w => shift_l a n _ _ _ _ _ _ w ha (word_wrap _) (word_div ha _) (by omega) (by omega) (beq_eq_false_iff_ne.2 hz) (Lib.hid rfl) (Lib.hid rfl))⟩
  rw [if_neg h9]
  by_cases h10 : op = 10
  · subst h10; rw [if_pos rfl, hn]
    by_cases hz : n = 0
    · subst hz; rw [if_pos rfl]
      exact ⟨ha, fun w => do_shr a b 0 a _ _ _ _ _ _ _ _ w hb (by omega) (by omega) (Lib.hid hn) (Lib.hid fun w => shift_z 10 a _ _ _ _ w)⟩
    · rw [if_neg hz]
      exact ⟨word_div ha _, fun w => do_shr a b n _ _ _ _ _ _ _ _ _ w hb (by omega) (by omega) (Lib.hid hn) (Lib.hid fun w => shift_r a n _ _ _ _ _ _ w ha (word_div ha _) (word_div ha _) (by omega) (by omega) (beq_eq_false_iff_ne.2 hz) (Lib.hid rfl) (Lib.hid rfl))⟩
  rw [if_neg h10]
  exact ⟨ha, fun w => do_none op a b z s c o w (f _ h0) (f _ h1) (f _ h2) (f _ h3) (f _ h4) (f _ h5) (f _ h6) (f _ h7) (f _ h8) (f _ h9) (f _ h10)⟩
/-- What is reckoned for an instruction. -/
def alC (x : InsV) (s : StV) : AlV := aluF x.alu (s.r x.b) (if x.op = 7 then s.r x.a else x.imm) s.z s.s s.c s.o
theorem alC_ok {s : StV} (h : StOk s) {x : InsV} (ha : x.a < 16) (hb : x.b < 16) (hi : x.imm < 18446744073709551616) : AluD x s (alC x s) := by
  have wa : Word (s.r x.a) := ⟨(h.r _ ha).1, (h.r _ ha).2⟩
  have wb : Word (s.r x.b) := ⟨(h.r _ hb).1, (h.r _ hb).2⟩
  have wi : Word (x.imm : Int) := ⟨by omega, by omega⟩
  unfold alC
  by_cases h7 : x.op = 7
  · rw [if_pos h7]
    have hr := aluF_ok x.alu (s.r x.b) (s.r x.a) s.z s.s s.c s.o wb wa
    exact ⟨hr.1.low, hr.1.high, fun _ => hr.2, fun e => by omega⟩
  · rw [if_neg h7]
    have hr := aluF_ok x.alu (s.r x.b) x.imm s.z s.s s.c s.o wb wi
    exact ⟨hr.1.low, hr.1.high, fun e => absurd e h7, fun _ => hr.2⟩
end Go.Proofs.Ythbgmlmcjnlopaa
namespace Go.Proofs.Ythbgmlmcjnlopaa
open Go.ChangeShapes Go.WideShapes Go.ChangeAt Go.RowKit
set_option linter.unusedVariables false
set_option linter.unusedSimpArgs false
set_option maxRecDepth 100000

theorem prot8 {p : Int} (h0 : 0 ≤ p) (h1 : p ≤ 15) (h : (bits .and .i64 p 8 != 0) = true) : 8 ≤ p := by
  have : p = 0 ∨ p = 1 ∨ p = 2 ∨ p = 3 ∨ p = 4 ∨ p = 5 ∨ p = 6 ∨ p = 7 ∨ 8 ≤ p := by omega
  rcases this with rfl | rfl | rfl | rfl | rfl | rfl | rfl | rfl | h' <;> first | exact h' | exact absurd h (by decide)
theorem askM_ok {mp : Int → Option Pg} (h : MpOk mp) {need kind : Int} : ∀ (k : Nat) (a n : Int), MpOk (askM mp (askS mp need kind k a n))
  | 0, _, _ => h
  | k + 1, a, n => by
    unfold askS
    by_cases hn : n ≤ 0
    · rw [if_pos hn]; exact h
    · rw [if_neg hn]
      cases hm : mp (a - a % 4096) with
      | none => exact h
      | some g =>
        simp only
        by_cases c : (bits .and .i64 g.prot 8 != 0) = true
        · rw [if_pos c]
          have hp := h.prot _ g hm
          have h8 := prot8 hp.1 hp.2 c
          exact h.unguard (g' := ⟨g.prot - 8, g.dat⟩) hm rfl ⟨by show 0 ≤ g.prot - 8; omega, by show g.prot - 8 ≤ 15; omega⟩
        · rw [if_neg c]
          by_cases c2 : (bits .and .i64 g.prot need == 0) = true
          · rw [if_pos c2]; exact h
          · rw [if_neg c2]; exact askM_ok h k _ _
section
variable {mp : Int → Option Pg}
structure OutOk (o : OutM) : Prop where
  mp : MpOk o.mp
  s : StOk o.s
theorem ok_rdM (h : MpOk mp) (a : Int) {s : StV} (hs : StOk s) (f : Int → StV) (hf : ∀ v, 0 ≤ v → v < 18446744073709551616 → StOk (f v)) : OutOk (rdM mp a s f) := by
  unfold rdM
  split
  · exact ⟨h, hf _ (numM_bd h a).1 (numM_bd h a).2⟩
  · exact ⟨askM_ok h _ _ _, hs⟩
theorem ok_wrM (h : MpOk mp) (a v : Int) {s s' : StV} (hs : StOk s) (hs' : StOk s') : OutOk (wrM mp a v s s') := by
  unfold wrM
  split
  · exact ⟨h.put _ 8 (fun j => byteOf_ok _ j), hs'⟩
  · exact ⟨askM_ok h _ _ _, hs⟩
theorem ok_okM (h : MpOk mp) {s : StV} (hs : StOk s) : OutOk (okM mp s) := ⟨h, hs⟩
theorem ok_do (h : MpOk mp) {x : InsV} {s : StV} {al : AlV} (hs : StOk s) (ha : x.a < 16) (hi : x.imm < 18446744073709551616) (l0 : 0 ≤ al.v) (l1 : al.v < 18446744073709551616) : OutOk (doM x s mp al) := by
  have hr4 := addM_bd (s.r 4)
  have hr5 := subM_bd (s.r 4)
  have hne := nearM_bd s x
  unfold doM
  by_cases c : x.op = 2
  · rw [if_pos c]; exact ok_rdM h _ hs _ (fun v v0 v1 => (hs.setR hr4.1 hr4.2).setIp v0 v1)
  rw [if_neg c]; clear c
  by_cases c : x.op = 3
  · rw [if_pos c]; exact ok_wrM h _ _ hs (hs.setR hr5.1 hr5.2)
  rw [if_neg c]; clear c
  by_cases c : x.op = 4
  · rw [if_pos c]; exact ok_rdM h _ hs _ (fun v v0 v1 => (hs.setR hr4.1 hr4.2).setR v0 v1)
  rw [if_neg c]; clear c
  by_cases c : x.op = 5 ∨ x.op = 6
  · rw [if_pos c]; exact ok_okM h (hs.setR (by omega) (by omega))
  rw [if_neg c]; clear c
  by_cases c : x.op = 7 ∨ x.op = 14 ∨ x.op = 15 ∨ x.op = 16
  · rw [if_pos c]; exact ok_okM h ((hs.setR l0 l1).setF _ _ _ _)
  rw [if_neg c]; clear c
  by_cases c : x.op = 8
  · rw [if_pos c]; exact ok_okM h (hs.setR (hs.r _ ha).1 (hs.r _ ha).2)
  rw [if_neg c]; clear c
  by_cases c : x.op = 9 ∨ x.op = 11
  · rw [if_pos c]; exact ok_rdM h _ hs _ (fun v v0 v1 => hs.setR v0 v1)
  rw [if_neg c]; clear c
  by_cases c : x.op = 10 ∨ x.op = 12
  · rw [if_pos c]; exact ok_wrM h _ _ hs hs
  rw [if_neg c]; clear c
  by_cases c : x.op = 13
  · rw [if_pos c]; exact ok_okM h (hs.setR hne.1 hne.2)
  rw [if_neg c]; clear c
  by_cases c : x.op = 17
  · rw [if_pos c]; exact ok_wrM h _ _ hs ((hs.setR hr5.1 hr5.2).setIp hne.1 hne.2)
  rw [if_neg c]; clear c
  by_cases c : x.op = 18 ∨ x.op = 19
  · rw [if_pos c]; exact ok_okM h (hs.setIp hne.1 hne.2)
  rw [if_neg c]; clear c
  by_cases c : x.op = 20
  · rw [if_pos c]; refine ok_okM h ?_; split; exact hs.setIp hne.1 hne.2; exact hs
  rw [if_neg c]; clear c
  by_cases c : x.op = 21
  · rw [if_pos c]
    split
    · exact ok_wrM h _ _ hs ((hs.setR hr5.1 hr5.2).setIp (numM_bd h _).1 (numM_bd h _).2)
    · exact ok_rdM h _ hs _ (fun v v0 v1 => hs)
  rw [if_neg c]; clear c
  by_cases c : x.op = 22
  · rw [if_pos c]; exact ok_rdM h _ hs _ (fun v v0 v1 => hs.setIp v0 v1)
  rw [if_neg c]; clear c
  exact ok_okM h hs
theorem ok_fetch (h : MpOk mp) (ip : Int) : ∀ (f : Nat) (bs : List Nat), MpOk (fetchM mp ip f bs).mp
  | 0, _ => h
  | f + 1, bs => by
    unfold fetchM
    split
    · split
      · exact ok_fetch h ip f _
      · exact h
    · exact askM_ok h _ _ _
/-- A step. -/
def stepF (mp : Int → Option Pg) (s : StV) (fk fa : Int) : StepR := stepM mp s fk fa (alC (fetchM mp s.ip 12 []).x (nextS s (fetchM mp s.ip 12 []).n))
theorem fetch_al (h : MpOk mp) {s : StV} (hs : StOk s) : (fetchM mp s.ip 12 []).flt = false → (fetchM mp s.ip 12 []).e = 0 → AluD (fetchM mp s.ip 12 []).x (nextS s (fetchM mp s.ip 12 []).n) (alC (fetchM mp s.ip 12 []).x (nextS s (fetchM mp s.ip 12 []).n)) := by
  intro h1 h2
  have hb := fetch_bd mp h s.ip 12 [] (fun v hv => nomatch hv) rfl (by omega)
  rcases hb with ⟨e, _⟩ | ⟨_, _, _, ⟨_, hd⟩ | e⟩
  · rw [h1] at e; cases e
  · exact alC_ok (hs.next _) hd.a hd.b hd.imm
  · rw [h2] at e; cases e
theorem stepF_ok (h : MpOk mp) {s : StV} (hs : StOk s) (fk fa : Int) : MpOk (stepF mp s fk fa).mp ∧ StOk (stepF mp s fk fa).s := by
  have hal := fetch_al h hs
  have hb := fetch_bd mp h s.ip 12 [] (fun v hv => nomatch hv) rfl (by omega)
  have hf := ok_fetch h s.ip 12 []
  unfold stepF stepM
  generalize fetchM mp s.ip 12 [] = F at *
  split
  · exact ⟨hf, hs⟩
  · split
    · exact ⟨hf, hs⟩
    · rename_i c1 c2
      have e1 : F.flt = false := by simpa using c1
      have e2 : F.e = 0 := by simpa using c2
      have ha := hal e1 e2
      have hx : InsD F.x := by
        rcases hb with ⟨e, _⟩ | ⟨_, _, _, ⟨_, hd⟩ | e⟩
        · rw [e1] at e; cases e
        · exact hd
        · rw [e2] at e; cases e
      have hm : F.mp = mp := by
        rcases hb with ⟨e, _⟩ | ⟨_, hm, _⟩
        · rw [e1] at e; cases e
        · exact hm
      have ho := ok_do h (hs.next F.n) hx.a hx.imm ha.v0 ha.v1
      split
      · exact ⟨ho.mp, ho.s⟩
      · exact ⟨ho.mp, hs⟩
/-- A step of the machine is this one. -/
theorem box_stepF {R : Nat → Prop} {w0 w : World} {C M m : Nat} {most : Int} {s : StV} {fk fa : Int} (h : Box R w0 w C M m most mp s fk fa) :
    Calls Try.prog 17 #[.pointer (some ⟨C, 0, none⟩)] w fun e w' => e = .returned (.tuple #[.int .i64 (stepF mp s fk fa).n, .int .i64 (stepF mp s fk fa).e]) ∧ Box R w0 w' C M m most (stepF mp s fk fa).mp (stepF mp s fk fa).s (stepF mp s fk fa).k (stepF mp s fk fa).a ∧ Kept (fun k => R k ∧ k ≠ C) w w' :=
  stepBoxK h _ (fetch_al h.ok h.sok) _ rfl (stepF_ok h.ok h.sok fk fa).1 (stepF_ok h.ok h.sok fk fa).2
/-- What a step is, where it is done. -/
theorem stepF_do {mp' : Int → Option Pg} {s s' : StV} {fk fa : Int} {x : InsV} {n : Nat} (hf : fetchM mp s.ip 12 [] = ⟨false, mp, x, n, 0, 0, 0⟩) (hd : doM x (nextS s n) mp (alC x (nextS s n)) = ⟨true, mp', s', 0, 0⟩) : stepF mp s fk fa = ⟨if x.op = 23 then wrap64 (wrap64 x.imm + 256) else 0, 0, mp', s', fk, fa⟩ := by
  unfold stepF stepM
  rw [hf]
  simp only [Bool.false_eq_true, if_false, ne_eq, not_true_eq_false]
  rw [hd]
  simp only [if_true]
theorem stepF_no {mp' : Int → Option Pg} {s s' : StV} {fk fa k a : Int} {x : InsV} {n : Nat} (hf : fetchM mp s.ip 12 [] = ⟨false, mp, x, n, 0, 0, 0⟩) (hd : doM x (nextS s n) mp (alC x (nextS s n)) = ⟨false, mp', s', k, a⟩) : stepF mp s fk fa = ⟨0, 17, mp', s, k, a⟩ := by
  unfold stepF stepM
  rw [hf]
  simp only [Bool.false_eq_true, if_false, ne_eq, not_true_eq_false]
  rw [hd]
  simp only [Bool.false_eq_true, if_false]
end
end Go.Proofs.Ythbgmlmcjnlopaa
namespace Go.Proofs.Ythbgmlmcjnlopaa
open Go.ChangeShapes Go.WideShapes Go.ChangeAt Go.RowKit
set_option linter.unusedVariables false
set_option linter.unusedSimpArgs false
set_option maxRecDepth 100000

/-- A block beside the machine is written. -/
theorem Box.setFar {R : Nat → Prop} {w0 w : World} {C M m : Nat} {most : Int} {mp : Int → Option Pg} {s : StV} {fk fa : Int} (h : Box R w0 w C M m most mp s fk fa) {D o : Nat} (hD : R D) (hC : D ≠ C) (h0 : w0.heap.size ≤ D) (v : Value) : Box R w0 (w.setCell ⟨D, o, none⟩ v) C M m most mp s fk fa :=
  ⟨h.mem.setFar hD v, Own.setFar h.cpu (fun e => hC e.symm) v, h.rC, h.ok, h.sok, h.r0, h.kept.setCell (fun e => by have e' : D < w0.heap.size := e; omega) _, h.cC⟩
theorem Own.blw {w w' : World} {g n : Nat} {f : Nat → Value} (h : Own w g n f) (hb : Below w.heap.size w w') : Own w' g n f := h.of_block (hb.block g h.1) hb.size
end Go.Proofs.Ythbgmlmcjnlopaa
namespace Go.Proofs.Ythbgmlmcjnlopaa
open Go.ChangeShapes Go.WideShapes Go.ChangeAt Go.RowKit
set_option linter.unusedVariables false
set_option linter.unusedSimpArgs false
set_option maxRecDepth 100000

theorem at_load (p : Addr) (v : Int) (w : World) (hc : w.cell? p = some (.int .i64 v)) : (callFunc 74 #[.pointer (some p)]).run Try.prog w = .ok (.value (.int .i64 v)) w := by
  rw [run_callFunc_extern (Try.func74) (by kernel_rfl) (by kernel_rfl) (by kernel_rfl) (e := Extern.Atomic.loadT (.int .i64)) (by kernel_rfl)]
  have h : (Extern.Atomic.loadT (.int .i64) #[.pointer (some p)]).run Try.prog w = .ok (.int .i64 v) w := by
    change Sem.run _ (do Extern.Atomic.read (.int .i64) (← asAddr (.pointer (some p)))) w = _
    simp [Extern.Atomic.read, asAddr, hc, Result.andThen]
  rw [h]
  rfl
theorem at_store (p : Addr) (u : Value) (v : Int) (w : World) (hc : w.cell? p = some u) (hz : w.frozen? p = false) : (callFunc 73 #[.pointer (some p), .int .i64 v]).run Try.prog w = .ok (.value (.tuple #[])) (w.setCell p (.int .i64 v)) := by
  rw [run_callFunc_extern (Try.func73) (by kernel_rfl) (by kernel_rfl) (by kernel_rfl) (e := Extern.Atomic.storeT) (by kernel_rfl)]
  have h : (Extern.Atomic.storeT #[.pointer (some p), .int .i64 v]).run Try.prog w = .ok (.tuple #[]) (w.setCell p (.int .i64 v)) := by
    change Sem.run _ (do
      store (← asAddr (.pointer (some p))) (.int .i64 v) .atomic
      pure Extern.Atomic.none_) w = _
    simp [asAddr, hc, hz, run_store _ w p (.int .i64 v) .atomic rfl, Result.andThen, Extern.Atomic.none_]
  rw [h]
  rfl
theorem at_add (p : Addr) (v d : Int) (w : World) (hc : w.cell? p = some (.int .i64 v)) (hz : w.frozen? p = false) : (callFunc 75 #[.pointer (some p), .int .i64 d]).run Try.prog w = .ok (.value (.int .i64 (IntKind.i64.wrap (v + d)))) (w.setCell p (.int .i64 (IntKind.i64.wrap (v + d)))) := by
  rw [run_callFunc_extern (Try.func75) (by kernel_rfl) (by kernel_rfl) (by kernel_rfl) (e := Extern.Atomic.update (Op.intArith .add) .i64 true) (by kernel_rfl), Go.Conc.run_add_entry hc hz]
  rfl
theorem fuelStore_any (w : World) (g : Nat) (u : Value) (v : Int) (hc : w.cell? ⟨g, 0, none⟩ = some u) (hz : w.frozen? ⟨g, 0, none⟩ = false) :
    Calls Try.prog 57 #[.pointer (some ⟨g, 0, none⟩), .int .i64 v] w fun e w' => e = .returned (.tuple #[]) ∧ w' = w.setCell ⟨g, 0, none⟩ (.int .i64 v) := by
  have h := at_store ⟨g, 0, none⟩ u v w hc hz
  go_enter Try.func57, Try.ntmps57
  go_wp2_with (simp only [h])
  go_end0
  exact ⟨rfl, rfl⟩
theorem fuelLoad_any (w : World) (g : Nat) (v : Int) (hc : w.cell? ⟨g, 0, none⟩ = some (.int .i64 v)) :
    Calls Try.prog 59 #[.pointer (some ⟨g, 0, none⟩)] w fun e w' => e = .returned (.int .i64 v) ∧ w' = w := by
  have h := at_load ⟨g, 0, none⟩ v w hc
  go_enter Try.func59, Try.ntmps59
  go_wp2_with (simp only [h])
  go_ret
  exact ⟨rfl, rfl⟩
theorem fuelAdd_any (w : World) (g : Nat) (v d x : Int) (hx : v + d = x) (h0 : -9223372036854775808 ≤ x) (h1 : x ≤ 9223372036854775807) (hc : w.cell? ⟨g, 0, none⟩ = some (.int .i64 v)) (hz : w.frozen? ⟨g, 0, none⟩ = false) :
    Calls Try.prog 60 #[.pointer (some ⟨g, 0, none⟩), .int .i64 d] w fun e w' => e = .returned (.int .i64 x) ∧ w' = w.setCell ⟨g, 0, none⟩ (.int .i64 x) := by
  have h := at_add ⟨g, 0, none⟩ v d w hc hz
  rw [show IntKind.i64.wrap (v + d) = x by rw [IntKind.wrap_i64]; omega] at h
  clear hx
  go_enter Try.func60, Try.ntmps60
  go_wp2_with (simp only [h])
  go_ret
  exact ⟨rfl, rfl⟩
/-- So much fuel is left at g. -/
def FuelN (w : World) (g : Nat) (n : Nat) : Prop := Own w g 1 (fun _ => .int .i64 (n : Int))
theorem fuelN_new (w : World) (n : Nat) (T : TypeId) : FuelN (w.alloc (.cells #[.int .i64 n] T)) w.heap.size n := ⟨by simp, fun i hi => by
  obtain rfl : i = 0 := by omega
  exact ⟨by simp [go_sem], by simp [go_sem]⟩⟩
theorem newFuel_any (w : World) (n : Int) (h1 : n ≤ 9223372036854775807) : Calls Try.prog 32 #[.int .i64 n] w fun e w' => e = .returned (.pointer (some ⟨w.heap.size, 0, none⟩)) ∧ Below w.heap.size w w' ∧ FuelN w' w.heap.size n.toNat := by
  have ho : Own (w.alloc (.cells #[.int .i64 0] 108)) w.heap.size 1 (fun _ => .int .i64 0) := ⟨by simp, fun i hi => by
    obtain rfl : i = 0 := by omega
    exact ⟨by simp [go_sem], by simp [go_sem]⟩⟩
  have hc := ho.cell (i := 0) (by omega)
  have hz := Own.frozen ho (i := 0) (by omega)
  clear ho
  by_cases hz0 : n = 0
  · subst hz0
    clear h1
    go_enter Try.func32, Try.ntmps32
    go_wp2_with fail
    refine (fuelStore_any _ w.heap.size _ _ hc hz).mono ?_
    rintro e w1 ⟨rfl, hw1⟩
    have HW := Lib.hid (show w1 = w.alloc (.cells #[.int .i64 0] 108) by rw [hw1]; simp [go_sem])
    clear hc hz hw1
    go_wp2
    go_ret
    rw [HW.out]
    exact ⟨rfl, by go_grown, fuelN_new w 0 _⟩
  by_cases hn : n < 0
  · go_enter Try.func32, Try.ntmps32
    go_wp2_with fail
    refine (fuelStore_any _ w.heap.size _ _ hc hz).mono ?_
    rintro e w1 ⟨rfl, hw1⟩
    have HW := Lib.hid (show w1 = w.alloc (.cells #[.int .i64 0] 108) by rw [hw1]; simp [go_sem])
    have HN := Lib.hid (And.intro hn h1)
    clear hc hz hw1 hn h1
    go_wp2
    go_ret
    have hn := HN.out.1
    rw [HW.out]
    refine ⟨rfl, by go_grown, ?_⟩
    rw [show n.toNat = 0 by omega]
    exact fuelN_new w 0 _
  · have hk : n = (n.toNat : Nat) := by omega
    have HK := Lib.hid hk
    have HF := Lib.hid (fuelN_new w n.toNat 108)
    rw [← hk] at HF
    have hn0 : 0 < n := by omega
    clear hk hn h1 hz0
    go_enter Try.func32, Try.ntmps32
    go_wp2_with fail
    refine (fuelStore_any _ w.heap.size _ _ hc hz).mono ?_
    rintro e w1 ⟨rfl, hw1⟩
    have HW := Lib.hid (show w1 = w.alloc (.cells #[.int .i64 n] 108) by rw [hw1]; simp [go_sem])
    clear hc hz hw1 hn0
    go_wp2
    go_ret
    rw [HW.out]
    exact ⟨rfl, by go_grown, HF.out⟩
theorem FuelN.bd {w : World} {g n : Nat} (h : FuelN w g n) : g < w.heap.size := h.1
/-- Taking one. -/
theorem take_yes (w : World) (g n : Nat) (h : FuelN w g (n + 1)) (hn : n + 1 ≤ 9223372036854775807) :
    Calls Try.prog 36 #[.pointer (some ⟨g, 0, none⟩)] w fun e w' => e = .returned (.bool true) ∧ w' = w.setCell ⟨g, 0, none⟩ (.int .i64 n) := by
  have hc := Own.cell h (i := 0) (by omega)
  have hz := Own.frozen h (i := 0) (by omega)
  have e1 : decide (0 ≤ (n : Int)) = true := decide_eq_true (by omega)
  clear h
  go_enter Try.func36, Try.ntmps36
  go_wp2_with fail
  refine (fuelAdd_any w g _ (-1) (n : Int) (by omega) (by omega) (by omega) hc hz).mono ?_
  rintro e w1 ⟨rfl, hw1⟩
  have HW := Lib.hid hw1
  clear hc hz hw1
  go_wp2_with fail
  go_ret
  exact ⟨rfl, HW.out⟩
theorem take_no (w : World) (g : Nat) (h : FuelN w g 0) :
    Calls Try.prog 36 #[.pointer (some ⟨g, 0, none⟩)] w fun e w' => e = .returned (.bool false) ∧ w' = (w.setCell ⟨g, 0, none⟩ (.int .i64 (-1))).setCell ⟨g, 0, none⟩ (.int .i64 0) := by
  have hc := Own.cell h (i := 0) (by omega)
  have hz := Own.frozen h (i := 0) (by omega)
  have HO := Lib.hid (Own.set h (i := 0) (by omega) (.int .i64 (-1)))
  clear h
  go_enter Try.func36, Try.ntmps36
  go_wp2_with fail
  refine (fuelAdd_any w g _ (-1) (-1) (by omega) (by omega) (by omega) hc hz).mono ?_
  rintro e w1 ⟨rfl, hw1⟩
  have HW := Lib.hid hw1
  rw [← hw1] at HO
  clear hc hz hw1
  have hc := HO.out.cell (i := 0) (by omega)
  have hz := Own.frozen HO.out (i := 0) (by omega)
  rw [if_pos rfl] at hc
  go_wp2_with fail
  refine (fuelAdd_any w1 g (-1) 1 0 (by omega) (by omega) (by omega) hc hz).mono ?_
  rintro e w2 ⟨rfl, hw2⟩
  have HW2 := Lib.hid (show w2 = (w.setCell ⟨g, 0, none⟩ (.int .i64 (-1))).setCell ⟨g, 0, none⟩ (.int .i64 0) by rw [hw2, HW.out])
  clear hc hz hw2
  go_wp2
  go_ret
  exact ⟨rfl, HW2.out⟩
theorem fuelN_set {w : World} {g n : Nat} (h : FuelN w g n) (k : Nat) : FuelN (w.setCell ⟨g, 0, none⟩ (.int .i64 k)) g k :=
  (Own.set h (i := 0) (by omega) (.int .i64 (k : Int))).congr (fun i hi => by
    obtain rfl : i = 0 := by omega
    rw [if_pos rfl])
theorem fuelN_set2 {w : World} {g n : Nat} (h : FuelN w g n) : FuelN ((w.setCell ⟨g, 0, none⟩ (.int .i64 (-1))).setCell ⟨g, 0, none⟩ (.int .i64 0)) g 0 :=
  (Own.set (Own.set h (i := 0) (by omega) (.int .i64 (-1))) (i := 0) (by omega) (.int .i64 0)).congr (fun i hi => by
    obtain rfl : i = 0 := by omega
    rw [if_pos rfl]; rfl)
theorem left_any (w : World) (g n : Nat) (h : FuelN w g n) (hn : n ≤ 9223372036854775807) :
    Calls Try.prog 35 #[.pointer (some ⟨g, 0, none⟩)] w fun e w' => e = .returned (.int .i64 n) ∧ w' = w := by
  have hc := Own.cell h (i := 0) (by omega)
  go_enter Try.func35, Try.ntmps35
  go_wp2_with fail
  refine (fuelLoad_any w g n hc).mono ?_
  rintro e w1 ⟨rfl, rfl⟩
  go_wp2
  go_ret
  exact ⟨rfl, rfl⟩
theorem gate_any (w : World) : Calls Try.prog 58 #[] w fun e w' => e = .returned (.int .u64 70368744181744) ∧ w' = w := by
  go_enter Try.func58, Try.ntmps58
  go_wp2
  go_ret
  exact ⟨rfl, rfl⟩
end Go.Proofs.Ythbgmlmcjnlopaa
namespace Go.Proofs.Ythbgmlmcjnlopaa
open Go.ChangeShapes Go.WideShapes Go.ChangeAt Go.RowKit
set_option linter.unusedVariables false
set_option linter.unusedSimpArgs false
set_option maxRecDepth 100000

/-- The deferred closure of a frame that returns: recover finds nothing. -/
theorem pass1_idle (p : Addr) (w : World) :
    CallsD Try.prog 72 #[.pointer (some p)] .returning w fun e u' w' => e = .returned (.tuple #[]) ∧ u' = .returning ∧ w' = w := by
  refine callsD_of_wpS Try.func72 rfl fun c₀ cs hu => ?_
  apply wpS_seq
  apply wpS_region
  simp [wpOpsS, go_sem, recoverD, hu, Try.ntmps72, Exit.thenS]
  refine wpS_cond (t := false) (by simp [Act.eval, Array.replicate]) ?_
  simp only [Bool.false_eq_true, if_false]
  refine wpS_of_wp (wp_skip ?_)
  cases c₀
  simp_all [bodyPostS, results, Try.results72]
theorem neq_nilGate (w : World) : (binOp .neq 70 .nilFunc .nilFunc).run Try.prog w = .ok (.bool false) w := by kernel_rfl
theorem neq_gate (fn : Fn) (first cap : Array Value) (w : World) : (binOp .neq 70 (.func fn first cap) .nilFunc).run Try.prog w = .ok (.bool true) w := by kernel_rfl
/-- No gate is there. -/
theorem pass_nil (n : Int) (C : Nat) (w : World) :
    Calls Try.prog 56 #[.nilFunc, .int .i64 n, .pointer (some ⟨C, 0, none⟩)] w fun e w' => e = .returned (.bool false) ∧ Below w.heap.size w w' := by
  have hmf : ∀ (fn : Fn) (first cap : Array Value) (w : World), (Instr.makeFunc fn first cap).run Try.prog w = .ok (.func fn first cap) w := fun _ _ _ _ => rfl
  have hq := neq_nilGate
  go_enter_defers Try.func56, Try.ntmps56
  go_wp2
  refine leaves_cons (f := 72) (args := #[.pointer (some ⟨w.heap.size, 0, none⟩)]) (by simp) (by simp [go_sem]) ?_
  refine (pass1_idle ⟨w.heap.size, 0, none⟩ _).mono ?_
  rintro e u' w'' ⟨rfl, rfl, rfl⟩
  simp [Leaves, settle, results, Try.results56, go_sem]
  go_grown
/-- A gate answers. -/
theorem pass_ends (n : Int) (C P : Nat) (w : World) (b : Bool) (G : World → Prop)
    (hG : ∀ w1, G w1 → w1.heap[w.heap.size]? = some (.cells #[.bool false] 4 (0, 0)))
    (hc : Calls Try.prog 37 #[.int .i64 n, .pointer (some ⟨C, 0, none⟩)] (w.alloc (.cells #[.bool false] 4)) fun e w1 => e = .returned (.bool b) ∧ G w1) :
    Calls Try.prog 56 #[.func (.func 37) #[] #[], .int .i64 n, .pointer (some ⟨C, 0, none⟩)] w fun e w' => e = .returned (.bool b) ∧ ∃ w1, G w1 ∧ w' = w1.setCell ⟨w.heap.size, 0, none⟩ (.bool b) := by
  have hmf : ∀ (fn : Fn) (first cap : Array Value) (w : World), (Instr.makeFunc fn first cap).run Try.prog w = .ok (.func fn first cap) w := fun _ _ _ _ => rfl
  have hq := neq_gate (.func 37) #[] #[]
  have HG := Lib.hid hG
  have HC := Lib.hid hc
  clear hG hc
  go_enter_defers Try.func56, Try.ntmps56
  go_wp2_with fail
  refine HC.out.mono ?_
  rintro e w1 ⟨rfl, hg1⟩
  have H1 := Lib.hid hg1
  have hz1 := HG.out w1 hg1
  have cR : w1.cell? ⟨w.heap.size, 0, none⟩ = some (.bool false) := by rw [cell_of_row' hz1]; rfl
  have zR : w1.frozen? ⟨w.heap.size, 0, none⟩ = false := by simp [World.frozen?, hz1]
  clear hz1 hg1 HC HG
  go_wp2
  refine leaves_cons (f := 72) (args := #[.pointer (some ⟨w.heap.size, 0, none⟩)]) (by simp) (by simp [go_sem]) ?_
  refine (pass1_idle ⟨w.heap.size, 0, none⟩ _).mono ?_
  rintro e u' w'' ⟨rfl, rfl, rfl⟩
  have hres : (w1.setCell ⟨w.heap.size, 0, none⟩ (.bool b)).cell? ⟨w.heap.size, 0, none⟩ = some (.bool b) := World.cell?_setCell_same _ _ _ cR
  clear cR zR
  have HE := Lib.hid (show ∃ w2, G w2 ∧ w1.setCell ⟨w.heap.size, 0, none⟩ (.bool b) = w2.setCell ⟨w.heap.size, 0, none⟩ (.bool b) from ⟨w1, H1.out, rfl⟩)
  generalize w1.setCell ⟨w.heap.size, 0, none⟩ (.bool b) = w4 at *
  simp [Leaves, settle, results, Try.results56, go_sem, hres]
  exact HE.out
/-- A gate answers. -/
theorem pass_args (n : Int) (C P : Nat) (w : World) (b : Bool) (G : World → Prop)
    (hG : ∀ w1, G w1 → w1.heap[w.heap.size]? = some (.cells #[.bool false] 4 (0, 0)))
    (hc : Calls Try.prog 33 #[.int .i64 n, .pointer (some ⟨C, 0, none⟩), .pointer (some ⟨P, 0, none⟩)] (w.alloc (.cells #[.bool false] 4)) fun e w1 => e = .returned (.bool b) ∧ G w1) :
    Calls Try.prog 56 #[.func (.func 33) #[] #[.pointer (some ⟨P, 0, none⟩)], .int .i64 n, .pointer (some ⟨C, 0, none⟩)] w fun e w' => e = .returned (.bool b) ∧ ∃ w1, G w1 ∧ w' = w1.setCell ⟨w.heap.size, 0, none⟩ (.bool b) := by
  have hmf : ∀ (fn : Fn) (first cap : Array Value) (w : World), (Instr.makeFunc fn first cap).run Try.prog w = .ok (.func fn first cap) w := fun _ _ _ _ => rfl
  have hq := neq_gate (.func 33) #[] #[.pointer (some ⟨P, 0, none⟩)]
  have HG := Lib.hid hG
  have HC := Lib.hid hc
  clear hG hc
  go_enter_defers Try.func56, Try.ntmps56
  go_wp2_with fail
  refine HC.out.mono ?_
  rintro e w1 ⟨rfl, hg1⟩
  have H1 := Lib.hid hg1
  have hz1 := HG.out w1 hg1
  have cR : w1.cell? ⟨w.heap.size, 0, none⟩ = some (.bool false) := by rw [cell_of_row' hz1]; rfl
  have zR : w1.frozen? ⟨w.heap.size, 0, none⟩ = false := by simp [World.frozen?, hz1]
  clear hz1 hg1 HC HG
  go_wp2
  refine leaves_cons (f := 72) (args := #[.pointer (some ⟨w.heap.size, 0, none⟩)]) (by simp) (by simp [go_sem]) ?_
  refine (pass1_idle ⟨w.heap.size, 0, none⟩ _).mono ?_
  rintro e u' w'' ⟨rfl, rfl, rfl⟩
  have hres : (w1.setCell ⟨w.heap.size, 0, none⟩ (.bool b)).cell? ⟨w.heap.size, 0, none⟩ = some (.bool b) := World.cell?_setCell_same _ _ _ cR
  clear cR zR
  have HE := Lib.hid (show ∃ w2, G w2 ∧ w1.setCell ⟨w.heap.size, 0, none⟩ (.bool b) = w2.setCell ⟨w.heap.size, 0, none⟩ (.bool b) from ⟨w1, H1.out, rfl⟩)
  generalize w1.setCell ⟨w.heap.size, 0, none⟩ (.bool b) = w4 at *
  simp [Leaves, settle, results, Try.results56, go_sem, hres]
  exact HE.out
end Go.Proofs.Ythbgmlmcjnlopaa
namespace Go.Proofs.Ythbgmlmcjnlopaa
open Go.ChangeShapes Go.WideShapes Go.ChangeAt Go.RowKit
set_option linter.unusedVariables false
set_option linter.unusedSimpArgs false
set_option maxRecDepth 100000

/-- What a call tells and leaves. -/
structure RunR (E : Type) where
  v : Int
  e : Int
  mp : Int → Option Pg
  k : Nat
  env : E
def gateA : Int := 70368744181744
/-- Code is run, so long as there is fuel. -/
def runM {E : Type} (gm : Int → StV → E → Bool × StV × E) : Nat → (Int → Option Pg) → StV → Int → Int → E → RunR E
  | 0, mp, s, _, _, e => if s.ip = gateA then ⟨s.r 0, 0, mp, 0, e⟩ else ⟨0, 18, mp, 0, e⟩
  | k + 1, mp, s, fk, fa, e =>
    if s.ip = gateA then ⟨s.r 0, 0, mp, k + 1, e⟩
    else if (stepF mp s fk fa).e ≠ 0 then ⟨0, (stepF mp s fk fa).e, (stepF mp s fk fa).mp, k, e⟩
    else if (stepF mp s fk fa).n = 0 then runM gm k (stepF mp s fk fa).mp (stepF mp s fk fa).s (stepF mp s fk fa).k (stepF mp s fk fa).a e
    else if (gm (wrap64 ((stepF mp s fk fa).n - 256)) (stepF mp s fk fa).s e).1 = true then runM gm k (stepF mp s fk fa).mp (gm (wrap64 ((stepF mp s fk fa).n - 256)) (stepF mp s fk fa).s e).2.1 (stepF mp s fk fa).k (stepF mp s fk fa).a (gm (wrap64 ((stepF mp s fk fa).n - 256)) (stepF mp s fk fa).s e).2.2
    else ⟨0, 19, (stepF mp s fk fa).mp, k, (gm (wrap64 ((stepF mp s fk fa).n - 256)) (stepF mp s fk fa).s e).2.2⟩
def startS (at' sp a0 a1 a2 : Int) : StV := ((((st0.setR 1 a0).setR 2 a1).setR 8 a2).setR 4 (subM sp)).setIp at'
/-- A call. -/
def callM {E : Type} (gm : Int → StV → E → Bool × StV × E) (mp : Int → Option Pg) (at' sp a0 a1 a2 : Int) (k : Nat) (e : E) : RunR E :=
  if (wrM mp (subM sp) gateA st0 st0).k ≠ 0 then ⟨0, 17, (wrM mp (subM sp) gateA st0 st0).mp, k, e⟩
  else runM gm k (wrM mp (subM sp) gateA st0 st0).mp (startS at' sp a0 a1 a2) 0 0 e
theorem write8 (R : Nat → Prop) (W : World) (M m : Nat) (most : Int) (mp : Int → Option Pg) (a v : Int) (g : Nat) (HO : MpOk mp) (h0 : 0 ≤ a) (h1 : a < 18446744073709551616) (hm : MemAt R W M m most mp) (hg : R g) (ho : Own W g 8 (leF v 8)) :
    Calls Try.prog 54 #[.pointer (some ⟨M, 0, none⟩), .int .u64 a, .slice (some ⟨g, 0, none⟩) 8 8] W fun e w' => e = .returned (.agg #[.int .i64 (wrM mp a v st0 st0).k, .int .u64 (wrM mp a v st0 st0).a]) ∧ MemAt R w' M m most (wrM mp a v st0 st0).mp ∧ Kept R W w' ∧ MpOk (wrM mp a v st0 st0).mp := by
  have hok := (ok_wrM HO a v StOk.zero StOk.zero).mp
  by_cases hf : (askS mp 2 3 8 a 8).1 = 0
  · have ha := HO.addr_in (need := 2) (kind := 3) (k := 8) h0 h1 (n := 8) (by omega) (by omega) (by omega) hf
    have e : wrM mp a v st0 st0 = ⟨true, putP mp a 8 (le8 v), st0, 0, 0⟩ := by unfold wrM; rw [if_pos hf]
    rw [e] at hok ⊢
    exact (write_yes R W M m most mp a (some ⟨g, 0, none⟩) 8 8 (le8 v) h0 (by omega) (by omega) (by omega) (by omega) (src_le8 ho hg) HO.prot hf hm).mono fun e w' h => ⟨h.1, h.2.1, h.2.2, hok⟩
  · have e : wrM mp a v st0 st0 = ⟨false, askM mp (askS mp 2 3 8 a 8), st0, (askS mp 2 3 8 a 8).1, (askS mp 2 3 8 a 8).2.1⟩ := by unfold wrM; rw [if_neg hf]
    rw [e] at hok ⊢
    exact (write_no R W M m most mp a (some ⟨g, 0, none⟩) 8 8 h0 (HO.addr h0 h1 (by omega)) (by omega) HO.prot hf hm).mono fun e w' h => ⟨h.1, h.2.1, h.2.2, hok⟩
/-- A gate, as it answers. -/
structure GateOk {E : Type} (gv : Value) (gm : Int → StV → E → Bool × StV × E) (At : E → World → Prop) (D : Nat → Prop) (w0 : World) (M m : Nat) (most : Int) : Prop where
  call : ∀ (R : Nat → Prop) (W : World) (C : Nat) (mp : Int → Option Pg) (s : StV) (fk fa n : Int) (e : E), Box R w0 W C M m most mp s fk fa → At e W → (∀ k, D k → R k ∧ k ≠ C) →
    Calls Try.prog 56 #[gv, .int .i64 n, .pointer (some ⟨C, 0, none⟩)] W fun en W' => en = .returned (.bool (gm n s e).1) ∧ ∃ R', Box R' w0 W' C M m most mp (gm n s e).2.1 fk fa ∧ At (gm n s e).2.2 W' ∧ (∀ k, R k → R' k) ∧ Kept (fun k => R k ∧ k ≠ C ∧ ¬ D k) W W'
  keep : ∀ e W W', (∀ k, D k → W'.heap[k]? = W.heap[k]?) → At e W → At e W'
/-- What stands at the head of a call's loop. -/
structure RunI {E : Type} (R0 : Nat → Prop) (w0 w wr : World) (C M m : Nat) (most : Int) (Fg : Nat) (At : E → World → Prop) (D : Nat → Prop) (R : Nat → Prop) (mp : Int → Option Pg) (s : StV) (fk fa : Int) (k : Nat) (e : E) : Prop where
  box : Box R w0 wr C M m most mp s fk fa
  fuel : FuelN wr Fg k
  env : At e wr
  sub : ∀ q, R0 q → R q
  kept : Kept (fun q => R0 q ∧ q ≠ Fg ∧ ¬ D q) w wr
def fuelOf (w : World) (g : Nat) : Nat := match w.cell? ⟨g, 0, none⟩ with | some (.int _ n) => n.toNat | _ => 0
theorem FuelN.of {w : World} {g n : Nat} (h : FuelN w g n) : fuelOf w g = n := by
  unfold fuelOf
  rw [Own.cell h (i := 0) (by omega)]
  exact Int.toNat_natCast n
end Go.Proofs.Ythbgmlmcjnlopaa
namespace Go.Proofs.Ythbgmlmcjnlopaa
open Go.ChangeShapes Go.WideShapes Go.ChangeAt Go.RowKit
set_option linter.unusedVariables false
set_option linter.unusedSimpArgs false
set_option maxRecDepth 100000

/-- What a call leaves. -/
structure RunQ {E : Type} (R0 : Nat → Prop) (w0 w w' : World) (M m : Nat) (most : Int) (Fg : Nat) (At : E → World → Prop) (D : Nat → Prop) (o : RunR E) : Prop where
  ex : ∃ R, Mem0 R w0 w' M m most o.mp ∧ (∀ q, R0 q → R q)
  fuel : FuelN w' Fg o.k
  env : At o.env w'
  kept : Kept (fun q => R0 q ∧ q ≠ Fg ∧ ¬ D q) w w'
theorem Box.mem0 {R : Nat → Prop} {w0 w : World} {C M m : Nat} {most : Int} {mp : Int → Option Pg} {s : StV} {fk fa : Int} (h : Box R w0 w C M m most mp s fk fa) : Mem0 R w0 w M m most mp := ⟨h.mem, h.ok, h.r0, h.kept⟩
def regS (a0 a1 a2 : Int) : Nat → StV
  | 0 => st0
  | 1 => st0.setR 1 a0
  | 2 => (st0.setR 1 a0).setR 2 a1
  | _ => ((st0.setR 1 a0).setR 2 a1).setR 8 a2
set_option maxHeartbeats 8000000 in
theorem call_any {E : Type} (R : Nat → Prop) (w0 w : World) (M m : Nat) (most : Int) (mp : Int → Option Pg) (h : Mem0 R w0 w M m most mp) (at' sp a0 a1 a2 : Int) (hat : 0 ≤ at' ∧ at' < 18446744073709551616) (hsp : 0 ≤ sp ∧ sp < 18446744073709551616)
    (h0 : 0 ≤ a0 ∧ a0 < 18446744073709551616) (h1 : 0 ≤ a1 ∧ a1 < 18446744073709551616) (h2 : 0 ≤ a2 ∧ a2 < 18446744073709551616) (Fg k : Nat) (hF : FuelN w Fg k) (hRF : R Fg) (hk : k ≤ 9223372036854775807) (hF0 : w0.heap.size ≤ Fg)
    (gv : Value) (gm : Int → StV → E → Bool × StV × E) (At : E → World → Prop) (D : Nat → Prop) (hg : GateOk gv gm At D w0 M m most) (hD : ∀ q, D q → R q ∧ q ≠ Fg) (e0 : E) (he : At e0 w) (hgv : gv.oneCell' = true)
    (o : RunR E) (ho : callM gm mp at' sp a0 a1 a2 k e0 = o) :
    Calls Try.prog 31 #[.pointer (some ⟨M, 0, none⟩), .int .u64 at', .int .u64 sp, .agg #[.int .u64 a0, .int .u64 a1, .int .u64 a2], .pointer (some ⟨Fg, 0, none⟩), gv] w fun en w' => en = .returned (.tuple #[.int .u64 o.v, .int .i64 o.e]) ∧ RunQ R w0 w w' M m most Fg At D o := by
  have HH := Lib.hid h
  have HAT := Lib.hid hat
  have HSP := Lib.hid hsp
  have HA := Lib.hid (And.intro h0 (And.intro h1 h2))
  have HF := Lib.hid hF
  have HRF := Lib.hid (And.intro hRF hF0)
  have HK := Lib.hid hk
  have HG := Lib.hid hg
  have HD := Lib.hid hD
  have HE := Lib.hid he
  have HO := Lib.hid ho
  have hws : IntKind.u64.wrap (sp - 8) = subM sp := by rw [IntKind.wrap_u64]; unfold subM; omega
  have hsb := subM_bd sp
  have HSB := Lib.hid hsb
  clear h hat hsp h0 h1 h2 hF hRF hF0 hk hg hD he ho hsb
  go_enter Try.func31, Try.ntmps31
  go_wp2_with fail
  --M1
  have hba : Below w.heap.size w (w.alloc (.cells #[.int .u64 a0, .int .u64 a1, .int .u64 a2] 64)) := (Below.refl _ _).alloc (Nat.le_refl _) _
  have H1 := Lib.hid (HH.out.below hba)
  have HK1 := Lib.hid (Kept.of_below (R := R) hba (fun q hq => HH.out.lt q hq))
  have HX1 := Lib.hid (heap_alloc_new w (.cells #[.int .u64 a0, .int .u64 a1, .int .u64 a2] 64))
  generalize w.alloc (.cells #[.int .u64 a0, .int .u64 a1, .int .u64 a2] 64) = w1 at *
  clear hba
  refine (mem0_cpu H1.out).mono ?_
  rintro e w2 ⟨C, hC, hb2, rfl, h2⟩
  have H2 := Lib.hid h2
  have HK2 := Lib.hid (HK1.out.trans (Kept.of_below (R := R) hb2 (fun q hq => Nat.lt_of_lt_of_le (HH.out.lt q hq) HK1.out.size)))
  have HX2 := Lib.hid ((hb2.block w.heap.size (lt_of_row' HX1.out)).trans HX1.out)
  have hcx : w.heap.size ≠ C := by have := lt_of_row' HX1.out; omega
  have HCX := Lib.hid (And.intro hcx (show ∀ q, R q → q ≠ C from fun q hq => by have := HH.out.lt q hq; have := lt_of_row' HX1.out; omega))
  obtain ⟨R2, hb3, hs2⟩ : ∃ R2, Box R2 w0 w2 C M m most mp st0 0 0 ∧ ∀ q, R q → R2 q := ⟨_, H2.out, fun q hq => .inl (.inl hq)⟩
  have HB := Lib.hid hb3
  have HS2 := Lib.hid hs2
  generalize w.heap.size = X at *
  clear h2 H2 hb2 hb3 hs2 hC H1 HK1 HX1 hcx
  go_wp2_with fail
  go_loopw [23] (fun v23 wr => ∃ j : Nat, j ≤ 3 ∧ v23 = .int .i64 j ∧ Box R2 w0 wr C M m most mp (regS a0 a1 a2 j) 0 0 ∧ Kept R w wr ∧ wr.heap[X]? = some (.cells #[.int .u64 a0, .int .u64 a1, .int .u64 a2] 64 (0, 0))) (fun v23 _ => 3 - (intOf v23).toNat)
  case atStart => exact ⟨0, by omega, rfl, HB.out, HK2.out, HX2.out⟩
  case round =>
    clear HB HK2 HX2
    obtain ⟨j, hj, rfl, hbx, hkx, hxx⟩ := hrel
    have HB := Lib.hid hbx
    have HK3 := Lib.hid hkx
    have HX3 := Lib.hid hxx
    clear hbx hkx hxx
    have ha0 := HA.out.1
    have ha1 := HA.out.2.1
    have ha2 := HA.out.2.2
    by_cases hlt : j < 3
    · have hix0 := fun (W : World) => show (Instr.index 99 (.agg #[.int .i64 1, .int .i64 2, .int .i64 8]) (.int .i64 0)).run Try.prog W = .ok (.int .i64 1) W from by kernel_rfl
      have hix1 := fun (W : World) => show (Instr.index 99 (.agg #[.int .i64 1, .int .i64 2, .int .i64 8]) (.int .i64 1)).run Try.prog W = .ok (.int .i64 2) W from by kernel_rfl
      have hix2 := fun (W : World) => show (Instr.index 99 (.agg #[.int .i64 1, .int .i64 2, .int .i64 8]) (.int .i64 2)).run Try.prog W = .ok (.int .i64 8) W from by kernel_rfl
      have c0 : wr.cell? ⟨X, 0, none⟩ = some (.int .u64 a0) := by rw [cell_of_row' HX3.out]; rfl
      have c1 : wr.cell? ⟨X, 1, none⟩ = some (.int .u64 a1) := by rw [cell_of_row' HX3.out]; rfl
      have c2 : wr.cell? ⟨X, 2, none⟩ = some (.int .u64 a2) := by rw [cell_of_row' HX3.out]; rfl
      rcases (by omega : j = 0 ∨ j = 1 ∨ j = 2) with rfl | rfl | rfl
      · go_wp2_with fail
        refine (box_put HB.out 1 (by omega) a0 ha0.1 ha0.2).mono ?_
        rintro e w4 ⟨rfl, h4, hk4⟩
        have H4 := Lib.hid h4
        have HK4 := Lib.hid (HK3.out.trans (hk4.mono (fun q hq => HCX.out.2 q hq)))
        have HX4 := Lib.hid ((hk4.block X HCX.out.1).trans HX3.out)
        clear h4 hk4 c0 c1 c2 HB HK3 HX3 hix0 hix1 hix2
        go_wp2_with fail
        go_roundw
        case rel => exact ⟨1, by omega, by go_num, H4.out, HK4.out, HX4.out⟩
        case measure => simp [intOf]
      · go_wp2_with fail
        refine (box_put HB.out 2 (by omega) a1 ha1.1 ha1.2).mono ?_
        rintro e w4 ⟨rfl, h4, hk4⟩
        have H4 := Lib.hid h4
        have HK4 := Lib.hid (HK3.out.trans (hk4.mono (fun q hq => HCX.out.2 q hq)))
        have HX4 := Lib.hid ((hk4.block X HCX.out.1).trans HX3.out)
        clear h4 hk4 c0 c1 c2 HB HK3 HX3 hix0 hix1 hix2
        go_wp2_with fail
        go_roundw
        case rel => exact ⟨2, by omega, by go_num, H4.out, HK4.out, HX4.out⟩
        case measure => simp [intOf]
      · go_wp2_with fail
        refine (box_put HB.out 8 (by omega) a2 ha2.1 ha2.2).mono ?_
        rintro e w4 ⟨rfl, h4, hk4⟩
        have H4 := Lib.hid h4
        have HK4 := Lib.hid (HK3.out.trans (hk4.mono (fun q hq => HCX.out.2 q hq)))
        have HX4 := Lib.hid ((hk4.block X HCX.out.1).trans HX3.out)
        clear h4 hk4 c0 c1 c2 HB HK3 HX3 hix0 hix1 hix2
        go_wp2_with fail
        go_roundw
        case rel => exact ⟨3, by omega, by go_num, H4.out, HK4.out, HX4.out⟩
        case measure => simp [intOf]
    · obtain rfl : j = 3 := by omega
      clear HX3 hlt hj
      simp only [Int.cast_ofNat_Int]
      obtain ⟨S8, hS8⟩ : ∃ S8, subM sp = S8 := ⟨_, rfl⟩
      have HS8 := Lib.hid hS8
      rw [hS8] at hws HSB
      clear hS8
      --M2
      go_wp2_with fail
      refine (box_put HB.out 4 (by omega) S8 HSB.out.1 HSB.out.2).mono ?_
      rintro e w4 ⟨rfl, h4, hk4⟩
      have H4 := Lib.hid h4
      have HK4 := Lib.hid (HK3.out.trans (hk4.mono (fun q hq => HCX.out.2 q hq)))
      clear h4 hk4 HB HK3
      go_wp2_with fail
      refine (bytes_in gateA 8 w4 (by decide) (by decide) (by omega)).mono ?_
      rintro e w5 ⟨rfl, hog, hb5⟩
      have HOG := Lib.hid hog
      have H5 := Lib.hid (H4.out.more hb5)
      have HK5 := Lib.hid (HK4.out.trans (Kept.of_below (R := R) hb5 (fun q hq => H4.out.lt q (HS2.out q hq))))
      clear hog hb5
      go_wp2_with fail
      refine (write8 _ w5 M m most mp S8 gateA w4.heap.size H5.out.ok HSB.out.1 HSB.out.2 H5.out.mem (.inr ⟨Nat.le_refl _, HOG.out.1⟩) HOG.out).mono ?_
      rintro e w6 ⟨rfl, hm6, hk6, hok6⟩
      obtain ⟨wk, hwk⟩ : ∃ o, wrM mp S8 gateA st0 st0 = o := ⟨_, rfl⟩
      rw [hwk] at hm6 hok6 ⊢
      obtain ⟨R3, h6, hs3⟩ : ∃ R3, Box R3 w0 w6 C M m most wk.mp ((regS a0 a1 a2 3).setR 4 S8) 0 0 ∧ ∀ q, R q → R3 q := ⟨_, H5.out.memory hm6 hk6 hok6, fun q hq => .inl (HS2.out q hq)⟩
      have H6 := Lib.hid h6
      have HS3 := Lib.hid hs3
      have HK6 := Lib.hid (HK5.out.trans (hk6.mono (fun q hq => .inl (HS2.out q hq))))
      have HWK := Lib.hid hwk
      clear hm6 hk6 hok6 hwk h6 hs3 H4 H5 HK4 HK5 HOG HS2
      --M3
      have HFU := Lib.hid (show ∀ W, Kept (fun q => R q ∧ q ≠ Fg ∧ ¬ D q) w W → Kept R w W → FuelN W Fg k ∧ At e0 W from fun W _ h => ⟨h.own HF.out HRF.out.1, HG.out.keep e0 w W (fun q hq => h.block q (HD.out q hq).1) HE.out⟩)
      by_cases hk0 : wk.k = 0
      · go_wp2_with fail
        have hba := (Below.refl w6.heap.size w6).alloc (Nat.le_refl _) (.cells #[.int .i64 wk.k, .int .u64 wk.a] 57)
        have H7 := Lib.hid (H6.out.below hba)
        have HK7 := Lib.hid (HK6.out.trans (Kept.of_below (R := R) hba (fun q hq => H6.out.lt q (HS3.out q hq))))
        rw [hk0] at H7 HK7
        generalize w6.alloc (.cells #[.int .i64 0, .int .u64 wk.a] 57) = w7 at *
        clear hba H6 HK6
        refine (box_jump H7.out at' HAT.out.1 HAT.out.2).mono ?_
        rintro e w8 ⟨rfl, h8, hk8⟩
        have HK8 := Lib.hid (HK7.out.trans (hk8.mono (fun q hq => HCX.out.2 q hq)))
        have hki : Kept (fun q => R q ∧ q ≠ Fg ∧ ¬ D q) w w8 := HK8.out.mono (fun q hq => hq.1)
        have hri : ∃ (R4 : Nat → Prop) (mp : Int → Option Pg) (s : StV) (fk fa : Int) (k : Nat) (e : E), RunI R w0 w w8 C M m most Fg At D R4 mp s fk fa k e ∧ runM gm k mp s fk fa e = o ∧ k ≤ 9223372036854775807 := by
          refine ⟨_, _, _, _, _, k, e0, ⟨h8, (HFU.out w8 hki HK8.out).1, (HFU.out w8 hki HK8.out).2, HS3.out, hki⟩, ?_, HK.out⟩
          rw [← HO.out]
          unfold callM
          rw [HS8.out, HWK.out, if_neg (by rw [hk0]; decide)]
          unfold startS
          rw [HS8.out]
          rfl
        have HRI := Lib.hid hri
        clear hk0 h8 hk8 hki hri H7 HK7 HK8 HFU
        go_wp2_with fail
        --M4
        go_loopw [18] (fun _ wr => ∃ (R4 : Nat → Prop) (mp : Int → Option Pg) (s : StV) (fk fa : Int) (k : Nat) (e : E), RunI R w0 w wr C M m most Fg At D R4 mp s fk fa k e ∧ runM gm k mp s fk fa e = o ∧ k ≤ 9223372036854775807) (fun _ wr => fuelOf wr Fg)
        case atStart => exact HRI.out
        case round =>
          clear HRI
          obtain ⟨R4, mp4, s4, fk, fa, k4, e4, hi, hr, hk4⟩ := hrel
          have HI := Lib.hid hi
          have HR := Lib.hid hr
          have HK4 := Lib.hid hk4
          clear hi hr hk4
          --M5
          go_wp2_with fail
          refine (box_ip HI.out.box s4.ip rfl).mono ?_
          rintro e w9 ⟨rfl, rfl⟩
          by_cases hip : s4.ip = 70368744181744
          · rw [hip]
            have hoe : o = ⟨s4.r 0, 0, mp4, k4, e4⟩ := by
              rw [← HR.out]
              cases k4 with
              | zero => unfold runM; rw [if_pos (show s4.ip = gateA from hip)]
              | succ k4 => unfold runM; rw [if_pos (show s4.ip = gateA from hip)]
            have HOE := Lib.hid hoe
            clear hip hoe
            go_wp2_with fail
            refine (box_reg HI.out.box 0 (by omega) (s4.r 0) rfl).mono ?_
            rintro e w10 ⟨rfl, rfl⟩
            go_wp2_with fail
            go_ret2
            rw [HOE.out]
            exact ⟨rfl, ⟨_, HI.out.box.mem0, HI.out.sub⟩, HI.out.fuel, HI.out.env, HI.out.kept⟩
          · obtain ⟨ip, hipe⟩ : ∃ ip, s4.ip = ip := ⟨_, rfl⟩
            have hne : (ip == 70368744181744) = false := beq_eq_false_iff_ne.2 (by rw [← hipe]; exact hip)
            have hng : ¬ s4.ip = gateA := hip
            have HNG := Lib.hid hng
            rw [hipe]
            clear hip hipe hng
            have hD4 : ∀ q, D q → R4 q ∧ q ≠ C ∧ q ≠ Fg := fun q hq => ⟨HI.out.sub q (HD.out q hq).1, HCX.out.2 q (HD.out q hq).1, (HD.out q hq).2⟩
            have HD4 := Lib.hid hD4
            have hFC : Fg ≠ C := HCX.out.2 Fg HRF.out.1
            have HFC := Lib.hid hFC
            clear hD4 hFC
            cases k4 with
            | zero =>
              have hoe : o = ⟨0, 18, mp4, 0, e4⟩ := by
                rw [← HR.out]
                unfold runM
                rw [if_neg HNG.out]
              have HOE := Lib.hid hoe
              clear hoe
              go_wp2_with fail
              refine (take_no w9 Fg HI.out.fuel).mono ?_
              rintro e w10 ⟨rfl, hw10⟩
              have h10 := (HI.out.box.setFar (o := 0) (HI.out.sub Fg HRF.out.1) HFC.out HRF.out.2 (.int .i64 (-1))).setFar (o := 0) (HI.out.sub Fg HRF.out.1) HFC.out HRF.out.2 (.int .i64 0)
              have hf10 := fuelN_set2 HI.out.fuel
              have he10 := HG.out.keep e4 w9 ((w9.setCell ⟨Fg, 0, none⟩ (.int .i64 (-1))).setCell ⟨Fg, 0, none⟩ (.int .i64 0)) (fun q hq => by rw [Below.heap_setCell _ ⟨Fg, 0, none⟩ _ q (HD4.out q hq).2.2, Below.heap_setCell _ ⟨Fg, 0, none⟩ _ q (HD4.out q hq).2.2]) HI.out.env
              have hk10 := (HI.out.kept.setCell (p := ⟨Fg, 0, none⟩) (fun e => e.2.1 rfl) (.int .i64 (-1))).setCell (p := ⟨Fg, 0, none⟩) (fun e => e.2.1 rfl) (.int .i64 0)
              rw [← hw10] at h10 hf10 he10 hk10
              have H10 := Lib.hid (And.intro h10 (And.intro hf10 (And.intro he10 hk10)))
              clear h10 hf10 he10 hk10 hw10
              go_wp2_with fail
              go_ret2
              rw [HOE.out]
              exact ⟨rfl, ⟨_, H10.out.1.mem0, HI.out.sub⟩, H10.out.2.1, H10.out.2.2.1, H10.out.2.2.2⟩
            | succ k4 =>
              go_wp2_with fail
              refine (take_yes w9 Fg k4 HI.out.fuel (by have := HK4.out; omega)).mono ?_
              rintro e w10 ⟨rfl, hw10⟩
              have h10 := HI.out.box.setFar (o := 0) (HI.out.sub Fg HRF.out.1) HFC.out HRF.out.2 (.int .i64 k4)
              have hf10 := fuelN_set HI.out.fuel k4
              have he10 := HG.out.keep e4 w9 (w9.setCell ⟨Fg, 0, none⟩ (.int .i64 k4)) (fun q hq => by rw [Below.heap_setCell _ ⟨Fg, 0, none⟩ _ q (HD4.out q hq).2.2]) HI.out.env
              have hk10 := HI.out.kept.setCell (p := ⟨Fg, 0, none⟩) (fun e => e.2.1 rfl) (.int .i64 k4)
              rw [← hw10] at h10 hf10 he10 hk10
              have H10 := Lib.hid (RunI.mk h10 hf10 he10 HI.out.sub hk10)
              have HFO := Lib.hid (show fuelOf w9 Fg = k4 + 1 from HI.out.fuel.of)
              clear h10 hf10 he10 hk10 hw10 HI
              go_wp2_with fail
              refine (box_stepF H10.out.box).mono ?_
              rintro e w11 ⟨rfl, h11, hk11⟩
              obtain ⟨sr, hsr⟩ : ∃ sr, stepF mp4 s4 fk fa = sr := ⟨_, rfl⟩
              rw [hsr] at h11 ⊢
              have hf11 : FuelN w11 Fg k4 := hk11.own H10.out.fuel ⟨H10.out.sub Fg HRF.out.1, HFC.out⟩
              have he11 := HG.out.keep e4 w10 w11 (fun q hq => hk11.block q ⟨(HD4.out q hq).1, (HD4.out q hq).2.1⟩) H10.out.env
              have hk11' := H10.out.kept.trans (hk11.mono (fun q hq => ⟨H10.out.sub q hq.1, HCX.out.2 q hq.1⟩))
              have H11 := Lib.hid (RunI.mk h11 hf11 he11 H10.out.sub hk11')
              have HSR := Lib.hid hsr
              clear h11 hk11 hf11 he11 hk11' hsr H10
              have hru := HR.out
              unfold runM at hru
              rw [if_neg HNG.out, HSR.out] at hru
              --M6
              by_cases hse : sr.e = 0
              · rw [if_neg (by rw [hse]; simp)] at hru
                by_cases hsn : sr.n = 0
                · rw [if_pos hsn] at hru
                  have HRU := Lib.hid hru
                  clear hru HR
                  go_wp2_with fail
                  go_roundw
                  case rel => exact ⟨_, _, _, _, _, _, _, H11.out, HRU.out, by have := HK4.out; omega⟩
                  case measure => rw [HFO.out, H11.out.fuel.of]; omega
                · rw [if_neg hsn] at hru
                  have hnb : (sr.n == 0) = false := beq_eq_false_iff_ne.2 hsn
                  have HRU := Lib.hid hru
                  clear hru HR
                  go_wp2_with fail
                  refine (HG.out.call R4 w11 C sr.mp sr.s sr.k sr.a (wrap64 (sr.n - 256)) e4 H11.out.box H11.out.env (fun q hq => ⟨(HD4.out q hq).1, (HD4.out q hq).2.1⟩)).mono ?_
                  rintro e w12 ⟨rfl, R5, h12, he12, hs12, hk12⟩
                  obtain ⟨⟨gb, gs, ge⟩, hgm⟩ : ∃ g, gm (wrap64 (sr.n - 256)) sr.s e4 = g := ⟨_, rfl⟩
                  have hru := HRU.out
                  rw [hgm] at h12 he12 hru ⊢
                  simp only at h12 he12 hru ⊢
                  have hf12 : FuelN w12 Fg k4 := hk12.own H11.out.fuel ⟨H11.out.sub Fg HRF.out.1, HFC.out, fun h => (HD.out Fg h).2 rfl⟩
                  have hk12' := H11.out.kept.trans (hk12.mono (fun q hq => ⟨H11.out.sub q hq.1, HCX.out.2 q hq.1, hq.2.2⟩))
                  have H12 := Lib.hid (RunI.mk h12 hf12 he12 (fun q hq => hs12 q (H11.out.sub q hq)) hk12')
                  have HGM := Lib.hid hgm
                  clear h12 he12 hs12 hk12 hf12 hk12' hgm HRU
                  by_cases hgb : gb = true
                  · rw [if_pos hgb] at hru
                    subst hgb
                    have HRU := Lib.hid hru
                    clear hru
                    go_wp2_with fail
                    go_roundw
                    case rel => exact ⟨_, _, _, _, _, _, _, H12.out, HRU.out, by have := HK4.out; omega⟩
                    case measure => rw [HFO.out, H12.out.fuel.of]; omega
                  · rw [if_neg hgb] at hru
                    have hgf : gb = false := by simpa using hgb
                    subst hgf
                    have HOE := Lib.hid hru
                    clear hru hgb
                    go_wp2_with fail
                    go_ret2
                    rw [← HOE.out]
                    exact ⟨rfl, ⟨_, H12.out.box.mem0, H12.out.sub⟩, H12.out.fuel, H12.out.env, H12.out.kept⟩
              · rw [if_pos hse] at hru
                have heb : (sr.e == 0) = false := beq_eq_false_iff_ne.2 hse
                have HOE := Lib.hid hru
                clear hru HR hse
                go_wp2_with fail
                go_ret2
                rw [← HOE.out]
                exact ⟨rfl, ⟨_, H11.out.box.mem0, H11.out.sub⟩, H11.out.fuel, H11.out.env, H11.out.kept⟩
      · have hb : (wk.k == 0) = false := beq_eq_false_iff_ne.2 hk0
        have hoe : o = ⟨0, 17, wk.mp, k, e0⟩ := by
          rw [← HO.out]
          unfold callM
          rw [HS8.out, HWK.out, if_pos hk0]
        have HOE := Lib.hid hoe
        clear hk0 hoe
        go_wp2_with fail
        have hba := (Below.refl w6.heap.size w6).alloc (Nat.le_refl _) (.cells #[.int .i64 wk.k, .int .u64 wk.a] 57)
        have H7 := Lib.hid (H6.out.below hba)
        have HK7 := Lib.hid (HK6.out.trans (Kept.of_below (R := R) hba (fun q hq => H6.out.lt q (HS3.out q hq))))
        generalize w6.alloc (.cells #[.int .i64 wk.k, .int .u64 wk.a] 57) = w7 at *
        go_ret2
        have hki : Kept (fun q => R q ∧ q ≠ Fg ∧ ¬ D q) w w7 := HK7.out.mono (fun q hq => hq.1)
        rw [HOE.out]
        exact ⟨rfl, ⟨_, H7.out.mem0, HS3.out⟩, (HFU.out w7 hki HK7.out).1, (HFU.out w7 hki HK7.out).2, hki⟩
end Go.Proofs.Ythbgmlmcjnlopaa
