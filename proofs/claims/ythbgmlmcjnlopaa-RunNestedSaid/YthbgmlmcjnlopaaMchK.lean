/- package cpu: one instruction as a whole. -/
import Derived.Test.YthbgmlmcjnlopaaMchJ
namespace Go.Proofs.Ythbgmlmcjnlopaa
open Go.ChangeShapes Go.WideShapes Go.ChangeAt Go.RowKit
set_option linter.unusedVariables false
set_option linter.unusedSimpArgs false
set_option maxRecDepth 100000

/-- What an instruction leaves: done or not, the memory, the state, the fault. -/
structure OutM where
  ok : Bool
  mp : Int → Option Pg
  s : StV
  k : Int
  a : Int
def rdM (mp : Int → Option Pg) (at' : Int) (s : StV) (f : Int → StV) : OutM :=
  if (askS mp 1 2 8 at' 8).1 = 0 then ⟨true, mp, f (numM mp at'), 0, 0⟩ else ⟨false, askM mp (askS mp 1 2 8 at' 8), s, (askS mp 1 2 8 at' 8).1, (askS mp 1 2 8 at' 8).2.1⟩
def wrM (mp : Int → Option Pg) (at' v : Int) (s s' : StV) : OutM :=
  if (askS mp 2 3 8 at' 8).1 = 0 then ⟨true, putP mp at' 8 (le8 v), s', 0, 0⟩ else ⟨false, askM mp (askS mp 2 3 8 at' 8), s, (askS mp 2 3 8 at' 8).1, (askS mp 2 3 8 at' 8).2.1⟩
def condM (cc : Nat) (s : StV) : Bool :=
  if cc = 2 then s.c else if cc = 3 then !s.c else if cc = 4 then s.z else if cc = 5 then !s.z else if cc = 8 then s.s else if cc = 9 then !s.s else if cc = 12 then s.s != s.o else s.s == s.o
/-- What was reckoned. -/
structure AlV where
  v : Int
  z : Bool
  s : Bool
  c : Bool
  o : Bool
def okM (mp : Int → Option Pg) (s : StV) : OutM := ⟨true, mp, s, 0, 0⟩
/-- One instruction. -/
def doM (x : InsV) (s : StV) (mp : Int → Option Pg) (al : AlV) : OutM :=
  if x.op = 2 then rdM mp (s.r 4) s (fun v => (s.setR 4 (addM (s.r 4))).setIp v)
  else if x.op = 3 then wrM mp (subM (s.r 4)) (s.r x.a) s (s.setR 4 (subM (s.r 4)))
  else if x.op = 4 then rdM mp (s.r 4) s (fun v => (s.setR 4 (addM (s.r 4))).setR x.a v)
  else if x.op = 5 ∨ x.op = 6 then okM mp (s.setR x.a x.imm)
  else if x.op = 7 ∨ x.op = 14 ∨ x.op = 15 ∨ x.op = 16 then okM mp ((s.setR x.b al.v).setF al.z al.s al.c al.o)
  else if x.op = 8 then okM mp (s.setR x.b (s.r x.a))
  else if x.op = 9 ∨ x.op = 11 then rdM mp (atM s x) s (fun v => s.setR x.a v)
  else if x.op = 10 ∨ x.op = 12 then wrM mp (atM s x) (s.r x.a) s s
  else if x.op = 13 then okM mp (s.setR x.a (nearM s x))
  else if x.op = 17 then wrM mp (subM (s.r 4)) s.ip s ((s.setR 4 (subM (s.r 4))).setIp (nearM s x))
  else if x.op = 18 ∨ x.op = 19 then okM mp (s.setIp (nearM s x))
  else if x.op = 20 then okM mp (if condM x.cc s = true then s.setIp (nearM s x) else s)
  else if x.op = 21 then
    if (askS mp 1 2 8 (nearM s x) 8).1 = 0 then wrM mp (subM (s.r 4)) s.ip s ((s.setR 4 (subM (s.r 4))).setIp (numM mp (nearM s x)))
    else rdM mp (nearM s x) s (fun _ => s)
  else if x.op = 22 then rdM mp (nearM s x) s (fun v => s.setIp v)
  else okM mp s
/-- An instruction as it comes. -/
structure InsD (x : InsV) : Prop where
  op : 1 ≤ x.op ∧ x.op ≤ 23
  a : x.a < 16
  b : x.b < 16
  imm : x.imm < 18446744073709551616
  cc : x.op = 20 → x.cc = 2 ∨ x.cc = 3 ∨ x.cc = 4 ∨ x.cc = 5 ∨ x.cc = 8 ∨ x.cc = 9 ∨ x.cc = 12 ∨ x.cc = 13
/-- What is reckoned for it. -/
structure AluD (x : InsV) (s : StV) (al : AlV) : Prop where
  v0 : 0 ≤ al.v
  v1 : al.v < 18446744073709551616
  two : x.op = 7 → AluR x.alu (s.r x.b) (s.r x.a) s.z s.s s.c s.o al.v al.z al.s al.c al.o
  one : x.op = 14 ∨ x.op = 15 ∨ x.op = 16 → AluR x.alu (s.r x.b) x.imm s.z s.s s.c s.o al.v al.z al.s al.c al.o

def DoP (o : OutM) (C B M m : Nat) (most : Int) (s0 : StV) (R : Nat → Prop) (w : World) (e : Ending) (w' : World) : Prop :=
  if o.ok = true then DoY R w B M m most o.mp o.s e w' else DoN R w C B M m most o.mp s0 o.k o.a e w'
section
variable {o : OutM} {C B M m : Nat} {most : Int} {s0 : StV} {R R' : Nat → Prop} {w W w' : World} {e : Ending}
theorem DoP.yes (h : o.ok = true) (h' : DoY R w B M m most o.mp o.s e w') : DoP o C B M m most s0 R w e w' := by unfold DoP; rw [if_pos h]; exact h'
theorem DoP.no (h : ¬ o.ok = true) (h' : DoN R w C B M m most o.mp s0 o.k o.a e w') : DoP o C B M m most s0 R w e w' := by unfold DoP; rw [if_neg h]; exact h'
theorem DoP.toY (h : DoP o C B M m most s0 R w e w') (ho : o.ok = true) : DoY R w B M m most o.mp o.s e w' := by unfold DoP at h; rw [if_pos ho] at h; exact h
theorem DoP.toN (h : DoP o C B M m most s0 R w e w') (ho : ¬ o.ok = true) : DoN R w C B M m most o.mp s0 o.k o.a e w' := by unfold DoP at h; rw [if_neg ho] at h; exact h
theorem DoP.back (h : DoP o C B M m most s0 R' W e w') (hk : Kept R w W) (hs : ∀ k, R k → R' k) : DoP o C B M m most s0 R w e w' := by
  by_cases ho : o.ok = true
  · exact .yes ho ((h.toY ho).back hk hs)
  · exact .no ho ((h.toN ho).back hk hs)
theorem DoP.told (h : DoP o C B M m most s0 R w e w') : ∃ v, e = .returned (.bool v) := by
  by_cases ho : o.ok = true
  · exact ⟨true, (h.toY ho).e⟩
  · exact ⟨false, (h.toN ho).e⟩
end
theorem rdM_yes {mp : Int → Option Pg} {at' : Int} {s : StV} {f : Int → StV} (h : (askS mp 1 2 8 at' 8).1 = 0) : rdM mp at' s f = ⟨true, mp, f (numM mp at'), 0, 0⟩ := if_pos h
theorem rdM_no {mp : Int → Option Pg} {at' : Int} {s : StV} {f : Int → StV} (h : ¬ (askS mp 1 2 8 at' 8).1 = 0) : rdM mp at' s f = ⟨false, askM mp (askS mp 1 2 8 at' 8), s, (askS mp 1 2 8 at' 8).1, (askS mp 1 2 8 at' 8).2.1⟩ := if_neg h
theorem wrM_yes {mp : Int → Option Pg} {at' v : Int} {s s' : StV} (h : (askS mp 2 3 8 at' 8).1 = 0) : wrM mp at' v s s' = ⟨true, putP mp at' 8 (le8 v), s', 0, 0⟩ := if_pos h
theorem wrM_no {mp : Int → Option Pg} {at' v : Int} {s s' : StV} (h : ¬ (askS mp 2 3 8 at' 8).1 = 0) : wrM mp at' v s s' = ⟨false, askM mp (askS mp 2 3 8 at' 8), s, (askS mp 2 3 8 at' 8).1, (askS mp 2 3 8 at' 8).2.1⟩ := if_neg h

theorem cond_any {cc : Nat} (h : cc = 2 ∨ cc = 3 ∨ cc = 4 ∨ cc = 5 ∨ cc = 8 ∨ cc = 9 ∨ cc = 12 ∨ cc = 13) (s : StV) (w : World) :
    Calls Try.prog 68 #[.int .i64 cc, .agg #[.bool s.z, .bool s.s, .bool s.c, .bool s.o]] w fun e w' => e = .returned (.bool (condM cc s)) ∧ Below w.heap.size w w' := by
  rcases h with rfl | rfl | rfl | rfl | rfl | rfl | rfl | rfl
  · exact cond_b s.z s.s s.c s.o w
  · exact cond_nb s.z s.s s.c s.o w
  · exact cond_e s.z s.s s.c s.o w
  · exact cond_ne s.z s.s s.c s.o w
  · exact cond_s s.z s.s s.c s.o w
  · exact cond_ns s.z s.s s.c s.o w
  · exact cond_l s.z s.s s.c s.o w
  · exact cond_nl s.z s.s s.c s.o w
theorem do_op1 (R : Nat → Prop) (w : World) (C B M m : Nat) (most : Int) (mp : Int → Option Pg) (s0 : StV) (fk fa : Int) (s : StV) (a b al cc im : Nat) (dp : Int) (av : AlV) (H : Ctx R w C B M m most mp s0 fk fa s) (hx : InsD (⟨1, a, b, al, cc, im, dp⟩ : InsV)) (hal : AluD (⟨1, a, b, al, cc, im, dp⟩ : InsV) s av) :
    Calls Try.prog 45 #[.pointer (some ⟨C, 0, none⟩), insV (⟨1, a, b, al, cc, im, dp⟩ : InsV), .pointer (some ⟨B, 0, none⟩)] w fun e w' => DoP (doM (⟨1, a, b, al, cc, im, dp⟩ : InsV) s mp av) C B M m most s0 R w e w' := by
  refine (doNop R w C B M m most mp s0 fk fa s a b al cc im dp H).mono fun e w' h => ?_
  exact DoP.yes rfl h
theorem do_op23 (R : Nat → Prop) (w : World) (C B M m : Nat) (most : Int) (mp : Int → Option Pg) (s0 : StV) (fk fa : Int) (s : StV) (a b al cc im : Nat) (dp : Int) (av : AlV) (H : Ctx R w C B M m most mp s0 fk fa s) (hx : InsD (⟨23, a, b, al, cc, im, dp⟩ : InsV)) (hal : AluD (⟨23, a, b, al, cc, im, dp⟩ : InsV) s av) :
    Calls Try.prog 45 #[.pointer (some ⟨C, 0, none⟩), insV (⟨23, a, b, al, cc, im, dp⟩ : InsV), .pointer (some ⟨B, 0, none⟩)] w fun e w' => DoP (doM (⟨23, a, b, al, cc, im, dp⟩ : InsV) s mp av) C B M m most s0 R w e w' := by
  refine (doInt R w C B M m most mp s0 fk fa s a b al cc im dp H).mono fun e w' h => ?_
  exact DoP.yes rfl h
theorem do_op5 (R : Nat → Prop) (w : World) (C B M m : Nat) (most : Int) (mp : Int → Option Pg) (s0 : StV) (fk fa : Int) (s : StV) (a b al cc im : Nat) (dp : Int) (av : AlV) (H : Ctx R w C B M m most mp s0 fk fa s) (hx : InsD (⟨5, a, b, al, cc, im, dp⟩ : InsV)) (hal : AluD (⟨5, a, b, al, cc, im, dp⟩ : InsV) s av) :
    Calls Try.prog 45 #[.pointer (some ⟨C, 0, none⟩), insV (⟨5, a, b, al, cc, im, dp⟩ : InsV), .pointer (some ⟨B, 0, none⟩)] w fun e w' => DoP (doM (⟨5, a, b, al, cc, im, dp⟩ : InsV) s mp av) C B M m most s0 R w e w' := by
  refine (doMovI R w C B M m most mp s0 fk fa s a b al cc im dp H hx.a hx.imm).mono fun e w' h => ?_
  exact DoP.yes rfl h
theorem do_op6 (R : Nat → Prop) (w : World) (C B M m : Nat) (most : Int) (mp : Int → Option Pg) (s0 : StV) (fk fa : Int) (s : StV) (a b al cc im : Nat) (dp : Int) (av : AlV) (H : Ctx R w C B M m most mp s0 fk fa s) (hx : InsD (⟨6, a, b, al, cc, im, dp⟩ : InsV)) (hal : AluD (⟨6, a, b, al, cc, im, dp⟩ : InsV) s av) :
    Calls Try.prog 45 #[.pointer (some ⟨C, 0, none⟩), insV (⟨6, a, b, al, cc, im, dp⟩ : InsV), .pointer (some ⟨B, 0, none⟩)] w fun e w' => DoP (doM (⟨6, a, b, al, cc, im, dp⟩ : InsV) s mp av) C B M m most s0 R w e w' := by
  refine (doMovL R w C B M m most mp s0 fk fa s a b al cc im dp H hx.a hx.imm).mono fun e w' h => ?_
  exact DoP.yes rfl h
theorem do_op8 (R : Nat → Prop) (w : World) (C B M m : Nat) (most : Int) (mp : Int → Option Pg) (s0 : StV) (fk fa : Int) (s : StV) (a b al cc im : Nat) (dp : Int) (av : AlV) (H : Ctx R w C B M m most mp s0 fk fa s) (hx : InsD (⟨8, a, b, al, cc, im, dp⟩ : InsV)) (hal : AluD (⟨8, a, b, al, cc, im, dp⟩ : InsV) s av) :
    Calls Try.prog 45 #[.pointer (some ⟨C, 0, none⟩), insV (⟨8, a, b, al, cc, im, dp⟩ : InsV), .pointer (some ⟨B, 0, none⟩)] w fun e w' => DoP (doM (⟨8, a, b, al, cc, im, dp⟩ : InsV) s mp av) C B M m most s0 R w e w' := by
  refine (doMov R w C B M m most mp s0 fk fa s a b al cc im dp H hx.a hx.b).mono fun e w' h => ?_
  exact DoP.yes rfl h
theorem do_op13 (R : Nat → Prop) (w : World) (C B M m : Nat) (most : Int) (mp : Int → Option Pg) (s0 : StV) (fk fa : Int) (s : StV) (a b al cc im : Nat) (dp : Int) (av : AlV) (H : Ctx R w C B M m most mp s0 fk fa s) (hx : InsD (⟨13, a, b, al, cc, im, dp⟩ : InsV)) (hal : AluD (⟨13, a, b, al, cc, im, dp⟩ : InsV) s av) :
    Calls Try.prog 45 #[.pointer (some ⟨C, 0, none⟩), insV (⟨13, a, b, al, cc, im, dp⟩ : InsV), .pointer (some ⟨B, 0, none⟩)] w fun e w' => DoP (doM (⟨13, a, b, al, cc, im, dp⟩ : InsV) s mp av) C B M m most s0 R w e w' := by
  refine (doLea R w C B M m most mp s0 fk fa s a b al cc im dp H hx.a).mono fun e w' h => ?_
  exact DoP.yes rfl h
theorem do_op7 (R : Nat → Prop) (w : World) (C B M m : Nat) (most : Int) (mp : Int → Option Pg) (s0 : StV) (fk fa : Int) (s : StV) (a b al cc im : Nat) (dp : Int) (av : AlV) (H : Ctx R w C B M m most mp s0 fk fa s) (hx : InsD (⟨7, a, b, al, cc, im, dp⟩ : InsV)) (hal : AluD (⟨7, a, b, al, cc, im, dp⟩ : InsV) s av) :
    Calls Try.prog 45 #[.pointer (some ⟨C, 0, none⟩), insV (⟨7, a, b, al, cc, im, dp⟩ : InsV), .pointer (some ⟨B, 0, none⟩)] w fun e w' => DoP (doM (⟨7, a, b, al, cc, im, dp⟩ : InsV) s mp av) C B M m most s0 R w e w' := by
  refine (doAlu R w C B M m most mp s0 fk fa s a b al cc im dp H hx.a hx.b av.v av.z av.s av.c av.o hal.v0 hal.v1 (hal.two rfl)).mono fun e w' h => ?_
  exact DoP.yes rfl h
theorem do_op14 (R : Nat → Prop) (w : World) (C B M m : Nat) (most : Int) (mp : Int → Option Pg) (s0 : StV) (fk fa : Int) (s : StV) (a b al cc im : Nat) (dp : Int) (av : AlV) (H : Ctx R w C B M m most mp s0 fk fa s) (hx : InsD (⟨14, a, b, al, cc, im, dp⟩ : InsV)) (hal : AluD (⟨14, a, b, al, cc, im, dp⟩ : InsV) s av) :
    Calls Try.prog 45 #[.pointer (some ⟨C, 0, none⟩), insV (⟨14, a, b, al, cc, im, dp⟩ : InsV), .pointer (some ⟨B, 0, none⟩)] w fun e w' => DoP (doM (⟨14, a, b, al, cc, im, dp⟩ : InsV) s mp av) C B M m most s0 R w e w' := by
  refine (doAluI R w C B M m most mp s0 fk fa s a b al cc im dp H hx.b av.v av.z av.s av.c av.o hal.v0 hal.v1 (hal.one (.inl rfl))).mono fun e w' h => ?_
  exact DoP.yes rfl h
theorem do_op15 (R : Nat → Prop) (w : World) (C B M m : Nat) (most : Int) (mp : Int → Option Pg) (s0 : StV) (fk fa : Int) (s : StV) (a b al cc im : Nat) (dp : Int) (av : AlV) (H : Ctx R w C B M m most mp s0 fk fa s) (hx : InsD (⟨15, a, b, al, cc, im, dp⟩ : InsV)) (hal : AluD (⟨15, a, b, al, cc, im, dp⟩ : InsV) s av) :
    Calls Try.prog 45 #[.pointer (some ⟨C, 0, none⟩), insV (⟨15, a, b, al, cc, im, dp⟩ : InsV), .pointer (some ⟨B, 0, none⟩)] w fun e w' => DoP (doM (⟨15, a, b, al, cc, im, dp⟩ : InsV) s mp av) C B M m most s0 R w e w' := by
  refine (doOne R w C B M m most mp s0 fk fa s a b al cc im dp H hx.b av.v av.z av.s av.c av.o hal.v0 hal.v1 (hal.one (.inr (.inl rfl)))).mono fun e w' h => ?_
  exact DoP.yes rfl h
theorem do_op16 (R : Nat → Prop) (w : World) (C B M m : Nat) (most : Int) (mp : Int → Option Pg) (s0 : StV) (fk fa : Int) (s : StV) (a b al cc im : Nat) (dp : Int) (av : AlV) (H : Ctx R w C B M m most mp s0 fk fa s) (hx : InsD (⟨16, a, b, al, cc, im, dp⟩ : InsV)) (hal : AluD (⟨16, a, b, al, cc, im, dp⟩ : InsV) s av) :
    Calls Try.prog 45 #[.pointer (some ⟨C, 0, none⟩), insV (⟨16, a, b, al, cc, im, dp⟩ : InsV), .pointer (some ⟨B, 0, none⟩)] w fun e w' => DoP (doM (⟨16, a, b, al, cc, im, dp⟩ : InsV) s mp av) C B M m most s0 R w e w' := by
  refine (doShift R w C B M m most mp s0 fk fa s a b al cc im dp H hx.b av.v av.z av.s av.c av.o hal.v0 hal.v1 (hal.one (.inr (.inr rfl)))).mono fun e w' h => ?_
  exact DoP.yes rfl h
theorem do_op18 (R : Nat → Prop) (w : World) (C B M m : Nat) (most : Int) (mp : Int → Option Pg) (s0 : StV) (fk fa : Int) (s : StV) (a b al cc im : Nat) (dp : Int) (av : AlV) (H : Ctx R w C B M m most mp s0 fk fa s) (hx : InsD (⟨18, a, b, al, cc, im, dp⟩ : InsV)) (hal : AluD (⟨18, a, b, al, cc, im, dp⟩ : InsV) s av) :
    Calls Try.prog 45 #[.pointer (some ⟨C, 0, none⟩), insV (⟨18, a, b, al, cc, im, dp⟩ : InsV), .pointer (some ⟨B, 0, none⟩)] w fun e w' => DoP (doM (⟨18, a, b, al, cc, im, dp⟩ : InsV) s mp av) C B M m most s0 R w e w' := by
  refine (doJmp R w C B M m most mp s0 fk fa s a b al cc im dp H).mono fun e w' h => ?_
  exact DoP.yes rfl h
theorem do_op19 (R : Nat → Prop) (w : World) (C B M m : Nat) (most : Int) (mp : Int → Option Pg) (s0 : StV) (fk fa : Int) (s : StV) (a b al cc im : Nat) (dp : Int) (av : AlV) (H : Ctx R w C B M m most mp s0 fk fa s) (hx : InsD (⟨19, a, b, al, cc, im, dp⟩ : InsV)) (hal : AluD (⟨19, a, b, al, cc, im, dp⟩ : InsV) s av) :
    Calls Try.prog 45 #[.pointer (some ⟨C, 0, none⟩), insV (⟨19, a, b, al, cc, im, dp⟩ : InsV), .pointer (some ⟨B, 0, none⟩)] w fun e w' => DoP (doM (⟨19, a, b, al, cc, im, dp⟩ : InsV) s mp av) C B M m most s0 R w e w' := by
  refine (doJmpS R w C B M m most mp s0 fk fa s a b al cc im dp H).mono fun e w' h => ?_
  exact DoP.yes rfl h
theorem do_op20 (R : Nat → Prop) (w : World) (C B M m : Nat) (most : Int) (mp : Int → Option Pg) (s0 : StV) (fk fa : Int) (s : StV) (a b al cc im : Nat) (dp : Int) (av : AlV) (H : Ctx R w C B M m most mp s0 fk fa s) (hx : InsD (⟨20, a, b, al, cc, im, dp⟩ : InsV)) (hal : AluD (⟨20, a, b, al, cc, im, dp⟩ : InsV) s av) :
    Calls Try.prog 45 #[.pointer (some ⟨C, 0, none⟩), insV (⟨20, a, b, al, cc, im, dp⟩ : InsV), .pointer (some ⟨B, 0, none⟩)] w fun e w' => DoP (doM (⟨20, a, b, al, cc, im, dp⟩ : InsV) s mp av) C B M m most s0 R w e w' := by
  have hc := fun w => cond_any (hx.cc rfl) s w
  by_cases c : condM cc s = true
  · refine (doJcc_yes R w C B M m most mp s0 fk fa s a b al cc im dp H (fun w => by have := hc w; rw [c] at this; exact this)).mono fun e w' h => ?_
    have ho : doM (⟨20, a, b, al, cc, im, dp⟩ : InsV) s mp av = okM mp (s.setIp (nearM s (⟨20, a, b, al, cc, im, dp⟩ : InsV))) := by
      show okM mp (if condM cc s = true then s.setIp (nearM s (⟨20, a, b, al, cc, im, dp⟩ : InsV)) else s) = _
      rw [if_pos c]
    exact DoP.yes (by rw [ho]; rfl) (by rw [ho]; exact h)
  · refine (doJcc_no R w C B M m most mp s0 fk fa s a b al cc im dp H (fun w => by have := hc w; rw [Bool.eq_false_iff.mpr c] at this; exact this)).mono fun e w' h => ?_
    have ho : doM (⟨20, a, b, al, cc, im, dp⟩ : InsV) s mp av = okM mp s := by
      show okM mp (if condM cc s = true then s.setIp (nearM s (⟨20, a, b, al, cc, im, dp⟩ : InsV)) else s) = _
      rw [if_neg c]
    exact DoP.yes (by rw [ho]; rfl) (by rw [ho]; exact h)
theorem do_op3 (R : Nat → Prop) (w : World) (C B M m : Nat) (most : Int) (mp : Int → Option Pg) (s0 : StV) (fk fa : Int) (s : StV) (a b al cc im : Nat) (dp : Int) (av : AlV) (H : Ctx R w C B M m most mp s0 fk fa s) (hx : InsD (⟨3, a, b, al, cc, im, dp⟩ : InsV)) (hal : AluD (⟨3, a, b, al, cc, im, dp⟩ : InsV) s av) :
    Calls Try.prog 45 #[.pointer (some ⟨C, 0, none⟩), insV (⟨3, a, b, al, cc, im, dp⟩ : InsV), .pointer (some ⟨B, 0, none⟩)] w fun e w' => DoP (doM (⟨3, a, b, al, cc, im, dp⟩ : InsV) s mp av) C B M m most s0 R w e w' := by
  refine (liftPush R w C B M m most mp s0 fk fa s a b al cc im dp (fun R w e w' => DoP (doM (⟨3, a, b, al, cc, im, dp⟩ : InsV) s mp av) C B M m most s0 R w e w') H (fun R' W e w' h hk hs => DoP.back h hk hs) (fun R' W e w' h => DoP.told h) (fun R' W H' => ?_))
  by_cases hf : (askS mp 2 3 8 (subM (s.r 4)) 8).1 = 0
  · refine (doPush_yes R' W C B M m most mp s0 fk fa s a b al cc im dp H' hx.a hf).mono fun e w' h => ?_
    have ho : doM (⟨3, a, b, al, cc, im, dp⟩ : InsV) s mp av = _ := wrM_yes hf
    exact DoP.yes (by rw [ho]) (by rw [ho]; exact h)
  · refine (doPush_no R' W C B M m most mp s0 fk fa s a b al cc im dp H' hx.a hf).mono fun e w' h => ?_
    have ho : doM (⟨3, a, b, al, cc, im, dp⟩ : InsV) s mp av = _ := wrM_no hf
    exact DoP.no (by rw [ho]; simp) (by rw [ho]; exact h)
theorem do_op4 (R : Nat → Prop) (w : World) (C B M m : Nat) (most : Int) (mp : Int → Option Pg) (s0 : StV) (fk fa : Int) (s : StV) (a b al cc im : Nat) (dp : Int) (av : AlV) (H : Ctx R w C B M m most mp s0 fk fa s) (hx : InsD (⟨4, a, b, al, cc, im, dp⟩ : InsV)) (hal : AluD (⟨4, a, b, al, cc, im, dp⟩ : InsV) s av) :
    Calls Try.prog 45 #[.pointer (some ⟨C, 0, none⟩), insV (⟨4, a, b, al, cc, im, dp⟩ : InsV), .pointer (some ⟨B, 0, none⟩)] w fun e w' => DoP (doM (⟨4, a, b, al, cc, im, dp⟩ : InsV) s mp av) C B M m most s0 R w e w' := by
  refine (liftPop R w C B M m most mp s0 fk fa s a b al cc im dp (fun R w e w' => DoP (doM (⟨4, a, b, al, cc, im, dp⟩ : InsV) s mp av) C B M m most s0 R w e w') H (fun R' W e w' h hk hs => DoP.back h hk hs) (fun R' W e w' h => DoP.told h) (fun R' W H' => ?_))
  by_cases hf : (askS mp 1 2 8 (s.r 4) 8).1 = 0
  · refine (doPop_yes R' W C B M m most mp s0 fk fa s a b al cc im dp H' hx.a hf).mono fun e w' h => ?_
    have ho : doM (⟨4, a, b, al, cc, im, dp⟩ : InsV) s mp av = _ := rdM_yes hf
    exact DoP.yes (by rw [ho]) (by rw [ho]; exact h)
  · refine (doPop_no R' W C B M m most mp s0 fk fa s a b al cc im dp H' hx.a hf).mono fun e w' h => ?_
    have ho : doM (⟨4, a, b, al, cc, im, dp⟩ : InsV) s mp av = _ := rdM_no hf
    exact DoP.no (by rw [ho]; simp) (by rw [ho]; exact h)
theorem do_op2 (R : Nat → Prop) (w : World) (C B M m : Nat) (most : Int) (mp : Int → Option Pg) (s0 : StV) (fk fa : Int) (s : StV) (a b al cc im : Nat) (dp : Int) (av : AlV) (H : Ctx R w C B M m most mp s0 fk fa s) (hx : InsD (⟨2, a, b, al, cc, im, dp⟩ : InsV)) (hal : AluD (⟨2, a, b, al, cc, im, dp⟩ : InsV) s av) :
    Calls Try.prog 45 #[.pointer (some ⟨C, 0, none⟩), insV (⟨2, a, b, al, cc, im, dp⟩ : InsV), .pointer (some ⟨B, 0, none⟩)] w fun e w' => DoP (doM (⟨2, a, b, al, cc, im, dp⟩ : InsV) s mp av) C B M m most s0 R w e w' := by
  refine (liftRet R w C B M m most mp s0 fk fa s a b al cc im dp (fun R w e w' => DoP (doM (⟨2, a, b, al, cc, im, dp⟩ : InsV) s mp av) C B M m most s0 R w e w') H (fun R' W e w' h hk hs => DoP.back h hk hs) (fun R' W e w' h => DoP.told h) (fun R' W H' => ?_))
  by_cases hf : (askS mp 1 2 8 (s.r 4) 8).1 = 0
  · refine (doRet_yes R' W C B M m most mp s0 fk fa s a b al cc im dp H'  hf).mono fun e w' h => ?_
    have ho : doM (⟨2, a, b, al, cc, im, dp⟩ : InsV) s mp av = _ := rdM_yes hf
    exact DoP.yes (by rw [ho]) (by rw [ho]; exact h)
  · refine (doRet_no R' W C B M m most mp s0 fk fa s a b al cc im dp H'  hf).mono fun e w' h => ?_
    have ho : doM (⟨2, a, b, al, cc, im, dp⟩ : InsV) s mp av = _ := rdM_no hf
    exact DoP.no (by rw [ho]; simp) (by rw [ho]; exact h)
theorem do_op17 (R : Nat → Prop) (w : World) (C B M m : Nat) (most : Int) (mp : Int → Option Pg) (s0 : StV) (fk fa : Int) (s : StV) (a b al cc im : Nat) (dp : Int) (av : AlV) (H : Ctx R w C B M m most mp s0 fk fa s) (hx : InsD (⟨17, a, b, al, cc, im, dp⟩ : InsV)) (hal : AluD (⟨17, a, b, al, cc, im, dp⟩ : InsV) s av) :
    Calls Try.prog 45 #[.pointer (some ⟨C, 0, none⟩), insV (⟨17, a, b, al, cc, im, dp⟩ : InsV), .pointer (some ⟨B, 0, none⟩)] w fun e w' => DoP (doM (⟨17, a, b, al, cc, im, dp⟩ : InsV) s mp av) C B M m most s0 R w e w' := by
  refine (liftCall R w C B M m most mp s0 fk fa s a b al cc im dp (fun R w e w' => DoP (doM (⟨17, a, b, al, cc, im, dp⟩ : InsV) s mp av) C B M m most s0 R w e w') H (fun R' W e w' h hk hs => DoP.back h hk hs) (fun R' W e w' h => DoP.told h) (fun R' W H' => ?_))
  by_cases hf : (askS mp 2 3 8 (subM (s.r 4)) 8).1 = 0
  · refine (doCall_yes R' W C B M m most mp s0 fk fa s a b al cc im dp H'  hf).mono fun e w' h => ?_
    have ho : doM (⟨17, a, b, al, cc, im, dp⟩ : InsV) s mp av = _ := wrM_yes hf
    exact DoP.yes (by rw [ho]) (by rw [ho]; exact h)
  · refine (doCall_no R' W C B M m most mp s0 fk fa s a b al cc im dp H'  hf).mono fun e w' h => ?_
    have ho : doM (⟨17, a, b, al, cc, im, dp⟩ : InsV) s mp av = _ := wrM_no hf
    exact DoP.no (by rw [ho]; simp) (by rw [ho]; exact h)
theorem do_op9 (R : Nat → Prop) (w : World) (C B M m : Nat) (most : Int) (mp : Int → Option Pg) (s0 : StV) (fk fa : Int) (s : StV) (a b al cc im : Nat) (dp : Int) (av : AlV) (H : Ctx R w C B M m most mp s0 fk fa s) (hx : InsD (⟨9, a, b, al, cc, im, dp⟩ : InsV)) (hal : AluD (⟨9, a, b, al, cc, im, dp⟩ : InsV) s av) :
    Calls Try.prog 45 #[.pointer (some ⟨C, 0, none⟩), insV (⟨9, a, b, al, cc, im, dp⟩ : InsV), .pointer (some ⟨B, 0, none⟩)] w fun e w' => DoP (doM (⟨9, a, b, al, cc, im, dp⟩ : InsV) s mp av) C B M m most s0 R w e w' := by
  refine (liftLoad R w C B M m most mp s0 fk fa s a b al cc im dp (fun R w e w' => DoP (doM (⟨9, a, b, al, cc, im, dp⟩ : InsV) s mp av) C B M m most s0 R w e w') H (fun R' W e w' h hk hs => DoP.back h hk hs) (fun R' W e w' h => DoP.told h) (fun R' W H' => ?_))
  by_cases hf : (askS mp 1 2 8 (atM s (⟨9, a, b, al, cc, im, dp⟩ : InsV)) 8).1 = 0
  · refine (doLoad_yes R' W C B M m most mp s0 fk fa s a b al cc im dp H' hx.a hx.b hf).mono fun e w' h => ?_
    have ho : doM (⟨9, a, b, al, cc, im, dp⟩ : InsV) s mp av = _ := rdM_yes hf
    exact DoP.yes (by rw [ho]) (by rw [ho]; exact h)
  · refine (doLoad_no R' W C B M m most mp s0 fk fa s a b al cc im dp H' hx.a hx.b hf).mono fun e w' h => ?_
    have ho : doM (⟨9, a, b, al, cc, im, dp⟩ : InsV) s mp av = _ := rdM_no hf
    exact DoP.no (by rw [ho]; simp) (by rw [ho]; exact h)
theorem do_op11 (R : Nat → Prop) (w : World) (C B M m : Nat) (most : Int) (mp : Int → Option Pg) (s0 : StV) (fk fa : Int) (s : StV) (a b al cc im : Nat) (dp : Int) (av : AlV) (H : Ctx R w C B M m most mp s0 fk fa s) (hx : InsD (⟨11, a, b, al, cc, im, dp⟩ : InsV)) (hal : AluD (⟨11, a, b, al, cc, im, dp⟩ : InsV) s av) :
    Calls Try.prog 45 #[.pointer (some ⟨C, 0, none⟩), insV (⟨11, a, b, al, cc, im, dp⟩ : InsV), .pointer (some ⟨B, 0, none⟩)] w fun e w' => DoP (doM (⟨11, a, b, al, cc, im, dp⟩ : InsV) s mp av) C B M m most s0 R w e w' := by
  refine (liftLoadR R w C B M m most mp s0 fk fa s a b al cc im dp (fun R w e w' => DoP (doM (⟨11, a, b, al, cc, im, dp⟩ : InsV) s mp av) C B M m most s0 R w e w') H (fun R' W e w' h hk hs => DoP.back h hk hs) (fun R' W e w' h => DoP.told h) (fun R' W H' => ?_))
  by_cases hf : (askS mp 1 2 8 (atM s (⟨11, a, b, al, cc, im, dp⟩ : InsV)) 8).1 = 0
  · refine (doLoadR_yes R' W C B M m most mp s0 fk fa s a b al cc im dp H' hx.a hf).mono fun e w' h => ?_
    have ho : doM (⟨11, a, b, al, cc, im, dp⟩ : InsV) s mp av = _ := rdM_yes hf
    exact DoP.yes (by rw [ho]) (by rw [ho]; exact h)
  · refine (doLoadR_no R' W C B M m most mp s0 fk fa s a b al cc im dp H' hx.a hf).mono fun e w' h => ?_
    have ho : doM (⟨11, a, b, al, cc, im, dp⟩ : InsV) s mp av = _ := rdM_no hf
    exact DoP.no (by rw [ho]; simp) (by rw [ho]; exact h)
theorem do_op10 (R : Nat → Prop) (w : World) (C B M m : Nat) (most : Int) (mp : Int → Option Pg) (s0 : StV) (fk fa : Int) (s : StV) (a b al cc im : Nat) (dp : Int) (av : AlV) (H : Ctx R w C B M m most mp s0 fk fa s) (hx : InsD (⟨10, a, b, al, cc, im, dp⟩ : InsV)) (hal : AluD (⟨10, a, b, al, cc, im, dp⟩ : InsV) s av) :
    Calls Try.prog 45 #[.pointer (some ⟨C, 0, none⟩), insV (⟨10, a, b, al, cc, im, dp⟩ : InsV), .pointer (some ⟨B, 0, none⟩)] w fun e w' => DoP (doM (⟨10, a, b, al, cc, im, dp⟩ : InsV) s mp av) C B M m most s0 R w e w' := by
  refine (liftStore R w C B M m most mp s0 fk fa s a b al cc im dp (fun R w e w' => DoP (doM (⟨10, a, b, al, cc, im, dp⟩ : InsV) s mp av) C B M m most s0 R w e w') H (fun R' W e w' h hk hs => DoP.back h hk hs) (fun R' W e w' h => DoP.told h) (fun R' W H' => ?_))
  by_cases hf : (askS mp 2 3 8 (atM s (⟨10, a, b, al, cc, im, dp⟩ : InsV)) 8).1 = 0
  · refine (doStore_yes R' W C B M m most mp s0 fk fa s a b al cc im dp H' hx.a hx.b hf).mono fun e w' h => ?_
    have ho : doM (⟨10, a, b, al, cc, im, dp⟩ : InsV) s mp av = _ := wrM_yes hf
    exact DoP.yes (by rw [ho]) (by rw [ho]; exact h)
  · refine (doStore_no R' W C B M m most mp s0 fk fa s a b al cc im dp H' hx.a hx.b hf).mono fun e w' h => ?_
    have ho : doM (⟨10, a, b, al, cc, im, dp⟩ : InsV) s mp av = _ := wrM_no hf
    exact DoP.no (by rw [ho]; simp) (by rw [ho]; exact h)
theorem do_op12 (R : Nat → Prop) (w : World) (C B M m : Nat) (most : Int) (mp : Int → Option Pg) (s0 : StV) (fk fa : Int) (s : StV) (a b al cc im : Nat) (dp : Int) (av : AlV) (H : Ctx R w C B M m most mp s0 fk fa s) (hx : InsD (⟨12, a, b, al, cc, im, dp⟩ : InsV)) (hal : AluD (⟨12, a, b, al, cc, im, dp⟩ : InsV) s av) :
    Calls Try.prog 45 #[.pointer (some ⟨C, 0, none⟩), insV (⟨12, a, b, al, cc, im, dp⟩ : InsV), .pointer (some ⟨B, 0, none⟩)] w fun e w' => DoP (doM (⟨12, a, b, al, cc, im, dp⟩ : InsV) s mp av) C B M m most s0 R w e w' := by
  refine (liftStoreR R w C B M m most mp s0 fk fa s a b al cc im dp (fun R w e w' => DoP (doM (⟨12, a, b, al, cc, im, dp⟩ : InsV) s mp av) C B M m most s0 R w e w') H (fun R' W e w' h hk hs => DoP.back h hk hs) (fun R' W e w' h => DoP.told h) (fun R' W H' => ?_))
  by_cases hf : (askS mp 2 3 8 (atM s (⟨12, a, b, al, cc, im, dp⟩ : InsV)) 8).1 = 0
  · refine (doStoreR_yes R' W C B M m most mp s0 fk fa s a b al cc im dp H' hx.a hf).mono fun e w' h => ?_
    have ho : doM (⟨12, a, b, al, cc, im, dp⟩ : InsV) s mp av = _ := wrM_yes hf
    exact DoP.yes (by rw [ho]) (by rw [ho]; exact h)
  · refine (doStoreR_no R' W C B M m most mp s0 fk fa s a b al cc im dp H' hx.a hf).mono fun e w' h => ?_
    have ho : doM (⟨12, a, b, al, cc, im, dp⟩ : InsV) s mp av = _ := wrM_no hf
    exact DoP.no (by rw [ho]; simp) (by rw [ho]; exact h)
theorem do_op21 (R : Nat → Prop) (w : World) (C B M m : Nat) (most : Int) (mp : Int → Option Pg) (s0 : StV) (fk fa : Int) (s : StV) (a b al cc im : Nat) (dp : Int) (av : AlV) (H : Ctx R w C B M m most mp s0 fk fa s) (hx : InsD (⟨21, a, b, al, cc, im, dp⟩ : InsV)) (hal : AluD (⟨21, a, b, al, cc, im, dp⟩ : InsV) s av) :
    Calls Try.prog 45 #[.pointer (some ⟨C, 0, none⟩), insV (⟨21, a, b, al, cc, im, dp⟩ : InsV), .pointer (some ⟨B, 0, none⟩)] w fun e w' => DoP (doM (⟨21, a, b, al, cc, im, dp⟩ : InsV) s mp av) C B M m most s0 R w e w' := by
  refine (liftCallR R w C B M m most mp s0 fk fa s a b al cc im dp (fun R w e w' => DoP (doM (⟨21, a, b, al, cc, im, dp⟩ : InsV) s mp av) C B M m most s0 R w e w') H (fun R' W e w' h hk hs => DoP.back h hk hs) (fun R' W e w' h => DoP.told h) (fun R' W H' => ?_))
  by_cases hl : (askS mp 1 2 8 (nearM s (⟨21, a, b, al, cc, im, dp⟩ : InsV)) 8).1 = 0
  · have ho0 : doM (⟨21, a, b, al, cc, im, dp⟩ : InsV) s mp av = wrM mp (subM (s.r 4)) s.ip s ((s.setR 4 (subM (s.r 4))).setIp (numM mp (nearM s (⟨21, a, b, al, cc, im, dp⟩ : InsV)))) := if_pos hl
    by_cases hf : (askS mp 2 3 8 (subM (s.r 4)) 8).1 = 0
    · refine (doCallR_yes R' W C B M m most mp s0 fk fa s a b al cc im dp H' hl hf).mono fun e w' h => ?_
      have ho := ho0.trans (wrM_yes hf)
      exact DoP.yes (by rw [ho]) (by rw [ho]; exact h)
    · refine (doCallR_no R' W C B M m most mp s0 fk fa s a b al cc im dp H' hl hf).mono fun e w' h => ?_
      have ho := ho0.trans (wrM_no hf)
      exact DoP.no (by rw [ho]; simp) (by rw [ho]; exact h)
  · have ho0 : doM (⟨21, a, b, al, cc, im, dp⟩ : InsV) s mp av = rdM mp (nearM s (⟨21, a, b, al, cc, im, dp⟩ : InsV)) s (fun _ => s) := if_neg hl
    refine (doCallR_rno R' W C B M m most mp s0 fk fa s a b al cc im dp H' hl).mono fun e w' h => ?_
    have ho := ho0.trans (rdM_no hl)
    exact DoP.no (by rw [ho]; simp) (by rw [ho]; exact h)
theorem do_op22 (R : Nat → Prop) (w : World) (C B M m : Nat) (most : Int) (mp : Int → Option Pg) (s0 : StV) (fk fa : Int) (s : StV) (a b al cc im : Nat) (dp : Int) (av : AlV) (H : Ctx R w C B M m most mp s0 fk fa s) (hx : InsD (⟨22, a, b, al, cc, im, dp⟩ : InsV)) (hal : AluD (⟨22, a, b, al, cc, im, dp⟩ : InsV) s av) :
    Calls Try.prog 45 #[.pointer (some ⟨C, 0, none⟩), insV (⟨22, a, b, al, cc, im, dp⟩ : InsV), .pointer (some ⟨B, 0, none⟩)] w fun e w' => DoP (doM (⟨22, a, b, al, cc, im, dp⟩ : InsV) s mp av) C B M m most s0 R w e w' := by
  by_cases hf : (askS mp 1 2 8 (nearM s (⟨22, a, b, al, cc, im, dp⟩ : InsV)) 8).1 = 0
  · refine (doJmpR_yes R w C B M m most mp s0 fk fa s a b al cc im dp H hf).mono fun e w' h => ?_
    have ho : doM (⟨22, a, b, al, cc, im, dp⟩ : InsV) s mp av = _ := rdM_yes hf
    exact DoP.yes (by rw [ho]) (by rw [ho]; exact h)
  · refine (doJmpR_no R w C B M m most mp s0 fk fa s a b al cc im dp H hf).mono fun e w' h => ?_
    have ho : doM (⟨22, a, b, al, cc, im, dp⟩ : InsV) s mp av = _ := rdM_no hf
    exact DoP.no (by rw [ho]; simp) (by rw [ho]; exact h)
theorem do_any (R : Nat → Prop) (w : World) (C B M m : Nat) (most : Int) (mp : Int → Option Pg) (s0 : StV) (fk fa : Int) (s : StV) (x : InsV) (av : AlV) (H : Ctx R w C B M m most mp s0 fk fa s) (hx : InsD x) (hal : AluD x s av) :
    Calls Try.prog 45 #[.pointer (some ⟨C, 0, none⟩), insV x, .pointer (some ⟨B, 0, none⟩)] w fun e w' => DoP (doM x s mp av) C B M m most s0 R w e w' := by
  obtain ⟨op, a, b, al, cc, im, dp⟩ := x
  have h1 : 1 ≤ op ∧ op ≤ 23 := hx.op
  rcases (by omega : op = 1 ∨ op = 2 ∨ op = 3 ∨ op = 4 ∨ op = 5 ∨ op = 6 ∨ op = 7 ∨ op = 8 ∨ op = 9 ∨ op = 10 ∨ op = 11 ∨ op = 12 ∨ op = 13 ∨ op = 14 ∨ op = 15 ∨ op = 16 ∨ op = 17 ∨ op = 18 ∨ op = 19 ∨ op = 20 ∨ op = 21 ∨ op = 22 ∨ op = 23) with rfl | rfl | rfl | rfl | rfl | rfl | rfl | rfl | rfl | rfl | rfl | rfl | rfl | rfl | rfl | rfl | rfl | rfl | rfl | rfl | rfl | rfl | rfl
  · exact do_op1 R w C B M m most mp s0 fk fa s a b al cc im dp av H hx hal
  · exact do_op2 R w C B M m most mp s0 fk fa s a b al cc im dp av H hx hal
  · exact do_op3 R w C B M m most mp s0 fk fa s a b al cc im dp av H hx hal
  · exact do_op4 R w C B M m most mp s0 fk fa s a b al cc im dp av H hx hal
  · exact do_op5 R w C B M m most mp s0 fk fa s a b al cc im dp av H hx hal
  · exact do_op6 R w C B M m most mp s0 fk fa s a b al cc im dp av H hx hal
  · exact do_op7 R w C B M m most mp s0 fk fa s a b al cc im dp av H hx hal
  · exact do_op8 R w C B M m most mp s0 fk fa s a b al cc im dp av H hx hal
  · exact do_op9 R w C B M m most mp s0 fk fa s a b al cc im dp av H hx hal
  · exact do_op10 R w C B M m most mp s0 fk fa s a b al cc im dp av H hx hal
  · exact do_op11 R w C B M m most mp s0 fk fa s a b al cc im dp av H hx hal
  · exact do_op12 R w C B M m most mp s0 fk fa s a b al cc im dp av H hx hal
  · exact do_op13 R w C B M m most mp s0 fk fa s a b al cc im dp av H hx hal
  · exact do_op14 R w C B M m most mp s0 fk fa s a b al cc im dp av H hx hal
  · exact do_op15 R w C B M m most mp s0 fk fa s a b al cc im dp av H hx hal
  · exact do_op16 R w C B M m most mp s0 fk fa s a b al cc im dp av H hx hal
  · exact do_op17 R w C B M m most mp s0 fk fa s a b al cc im dp av H hx hal
  · exact do_op18 R w C B M m most mp s0 fk fa s a b al cc im dp av H hx hal
  · exact do_op19 R w C B M m most mp s0 fk fa s a b al cc im dp av H hx hal
  · exact do_op20 R w C B M m most mp s0 fk fa s a b al cc im dp av H hx hal
  · exact do_op21 R w C B M m most mp s0 fk fa s a b al cc im dp av H hx hal
  · exact do_op22 R w C B M m most mp s0 fk fa s a b al cc im dp av H hx hal
  · exact do_op23 R w C B M m most mp s0 fk fa s a b al cc im dp av H hx hal
end Go.Proofs.Ythbgmlmcjnlopaa
