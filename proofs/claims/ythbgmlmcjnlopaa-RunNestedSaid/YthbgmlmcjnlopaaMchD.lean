/- package cpu: the stack. -/
import Derived.Test.YthbgmlmcjnlopaaMchC
namespace Go.Proofs.Ythbgmlmcjnlopaa
open Go.ChangeShapes Go.WideShapes Go.ChangeAt Go.RowKit
set_option linter.unusedVariables false
set_option linter.unusedSimpArgs false
set_option maxRecDepth 100000

/-- A machine at C over the memory at M, and a state at B. -/
structure Ctx (R : Nat → Prop) (w : World) (C B M m : Nat) (most : Int) (mp : Int → Option Pg) (s0 : StV) (fk fa : Int) (s : StV) : Prop where
  mem : MemAt R w M m most mp
  cpu : Own w C 24 (cpuF M s0 fk fa)
  st : StAt w B s
  rC : R C
  rB : R B
  ne : C ≠ B
  ok : MpOk mp
  sok : StOk s
/-- It was done. -/
structure DoY (R : Nat → Prop) (w : World) (B M m : Nat) (most : Int) (mp' : Int → Option Pg) (s' : StV) (e : Ending) (w' : World) : Prop where
  e : e = .returned (.bool true)
  mem : MemAt R w' M m most mp'
  st : StAt w' B s'
  kept : Kept (fun k => R k ∧ k ≠ B) w w'
/-- It was not done. -/
structure DoN (R : Nat → Prop) (w : World) (C B M m : Nat) (most : Int) (mp' : Int → Option Pg) (s0 : StV) (k a : Int) (e : Ending) (w' : World) : Prop where
  e : e = .returned (.bool false)
  mem : MemAt R w' M m most mp'
  cpu : Own w' C 24 (cpuF M s0 k a)
  kept : Kept (fun q => R q ∧ q ≠ C ∧ q ≠ B) w w'
section
variable {R : Nat → Prop} {w w' : World} {C B M m : Nat} {most : Int} {mp mp' : Int → Option Pg} {s0 : StV} {fk fa : Int} {s : StV}
theorem Ctx.setR (h : Ctx R w C B M m most mp s0 fk fa s) {i : Nat} (hi : i < 16) {v : Int} (h0 : 0 ≤ v) (h1 : v < 18446744073709551616) : Ctx R (w.setCell ⟨B, i, none⟩ (.int .u64 v)) C B M m most mp s0 fk fa (s.setR i v) :=
  ⟨h.mem.setFar h.rB _, h.cpu.of_block (Below.heap_setCell w ⟨B, i, none⟩ _ C h.ne) (by simp [World.setCell]), h.st.setR hi v, h.rC, h.rB, h.ne, h.ok, h.sok.setR h0 h1⟩
theorem Ctx.setIp (h : Ctx R w C B M m most mp s0 fk fa s) {v : Int} (h0 : 0 ≤ v) (h1 : v < 18446744073709551616) : Ctx R (w.setCell ⟨B, 16, none⟩ (.int .u64 v)) C B M m most mp s0 fk fa (s.setIp v) :=
  ⟨h.mem.setFar h.rB _, h.cpu.of_block (Below.heap_setCell w ⟨B, 16, none⟩ _ C h.ne) (by simp [World.setCell]), h.st.setIp v, h.rC, h.rB, h.ne, h.ok, h.sok.setIp h0 h1⟩
theorem Ctx.keep (h : Ctx R w C B M m most mp s0 fk fa s) (hm : MemAt R w' M m most mp) (hk : Kept R w w') : Ctx R w' C B M m most mp s0 fk fa s :=
  ⟨hm, hk.own h.cpu h.rC, hk.own h.st h.rB, h.rC, h.rB, h.ne, h.ok, h.sok⟩
theorem Ctx.below (h : Ctx R w C B M m most mp s0 fk fa s) (hb : Below w.heap.size w w') : Ctx R w' C B M m most mp s0 fk fa s :=
  h.keep (h.mem.below hb) (Kept.of_below hb h.mem.sz)
theorem Ctx.drew (h : Ctx R w C B M m most mp s0 fk fa s) : Ctx R w.drew C B M m most mp s0 fk fa s := h.below ((Below.refl _ _).drew)
theorem Ctx.yes (h : Ctx R w C B M m most mp s0 fk fa s) {W : World} (hk : Kept (fun k => R k ∧ k ≠ B) W w) : DoY R W B M m most mp s (.returned (.bool true)) w := ⟨rfl, h.mem, h.st, hk⟩
theorem keptB (w : World) (B o : Nat) (u : Value) : Kept (fun k => R k ∧ k ≠ B) w (w.setCell ⟨B, o, none⟩ u) := ⟨rfl, rfl, rfl, by simp [World.setCell], fun k hk => Below.heap_setCell w ⟨B, o, none⟩ u k hk.2⟩
end
def subM (v : Int) : Int := (v - 8) % 18446744073709551616
def addM (v : Int) : Int := (v + 8) % 18446744073709551616
theorem subM_bd (v : Int) : 0 ≤ subM v ∧ subM v < 18446744073709551616 := by unfold subM; omega
theorem addM_bd (v : Int) : 0 ≤ addM v ∧ addM v < 18446744073709551616 := by unfold addM; omega

set_option maxHeartbeats 4000000 in
theorem push_yes (R : Nat → Prop) (w : World) (C B M m : Nat) (most : Int) (mp : Int → Option Pg) (s0 : StV) (fk fa : Int) (s : StV) (v : Int) (v0 : 0 ≤ v) (v1 : v < 18446744073709551616) (H : Ctx R w C B M m most mp s0 fk fa s) (hf : (askS mp 2 3 8 (subM (s.r 4)) 8).1 = 0) :
    Calls Try.prog 79 #[.pointer (some ⟨C, 0, none⟩), .pointer (some ⟨B, 0, none⟩), .int .u64 v] w fun e w' => DoY R w B M m most (putP mp (subM (s.r 4)) 8 (le8 v)) (s.setR 4 (subM (s.r 4))) e w' := by
  have hw : IntKind.u64.wrap (s.r 4 - 8) = subM (s.r 4) := by rw [IntKind.wrap_u64]; unfold subM; omega
  have HC := Lib.hid H.drew
  have HH := Lib.hid H
  have HF := Lib.hid hf
  have HBD := Lib.hid (subM_bd (s.r 4))
  clear H hf
  generalize subM (s.r 4) = sp at *
  have c4 := (HC.out.st.reg (i := 4) (by omega))
  have HR0 := Lib.hid (show w.drew.cell? ⟨B, 4, none⟩ = some (.int .u64 (s.r 4)) from c4.1)
  clear c4
  go_enter Try.func79, Try.ntmps79
  go_upto_region 1 with (fail)
  refine wp_region_noPanic ?_
  refine wp_region_K (fun _ => True) (fun W => W.cell? ⟨B, 4, none⟩ = some (.int .u64 (s.r 4))) 9 (by kernel_rfl) ?_
  refine wpAnyK_take (i := 0) (oi := ?_) (v := ?_) ?_ (by kernel_rfl) (by kernel_rfl) (by kernel_rfl) (fun _ _ _ h => h) (by decide) ?_ trivial (fun _ => HR0.out) ?_
  rotate_left 2
  · (simp only [List.getElem?_toArray, List.getElem?_cons_succ, List.getElem?_cons_zero]; rfl)
  · (first | exact Or.inr ⟨by rfl, rfl⟩ | (refine Or.inl ⟨by rfl, ?_⟩; intro W hSw; clear hSw; go_simp; try with_reducible rfl))
  try simp only [Act.put, List.setIfInBounds_toArray, List.set_cons_zero, List.set_cons_succ]
  refine wpAnyK_take (i := 1) (oi := ?_) (v := ?_) ?_ (by kernel_rfl) (by kernel_rfl) (by kernel_rfl) (fun _ _ _ h => h) (by decide) ?_ trivial (fun _ => HR0.out) ?_
  rotate_left 2
  · (simp only [List.getElem?_toArray, List.getElem?_cons_succ, List.getElem?_cons_zero]; rfl)
  · (first | exact Or.inr ⟨by rfl, rfl⟩ | (refine Or.inl ⟨by rfl, ?_⟩; intro W hSw; clear hSw; go_simp; try with_reducible rfl))
  try simp only [Act.put, List.setIfInBounds_toArray, List.set_cons_zero, List.set_cons_succ]
  refine wpAnyK_take (i := 2) (oi := ?_) (v := ?_) ?_ (by kernel_rfl) (by kernel_rfl) (by kernel_rfl) (fun _ _ _ h => h) (by decide) ?_ trivial (fun _ => HR0.out) ?_
  rotate_left 2
  · (simp only [List.getElem?_toArray, List.getElem?_cons_succ, List.getElem?_cons_zero]; rfl)
  · (first | exact Or.inr ⟨by rfl, rfl⟩ | (refine Or.inl ⟨by rfl, ?_⟩; intro W hSw; clear hSw; go_simp; try with_reducible rfl))
  try simp only [Act.put, List.setIfInBounds_toArray, List.set_cons_zero, List.set_cons_succ]
  refine wpAnyK_take (i := 3) (oi := ?_) (v := ?_) ?_ (by kernel_rfl) (by kernel_rfl) (by kernel_rfl) (fun _ _ _ h => h) (by decide) ?_ trivial (fun _ => HR0.out) ?_
  rotate_left 2
  · (simp only [List.getElem?_toArray, List.getElem?_cons_succ, List.getElem?_cons_zero]; rfl)
  · (first | exact Or.inr ⟨by rfl, rfl⟩ | (refine Or.inl ⟨by rfl, ?_⟩; intro W hSw; clear hSw; go_simp; try with_reducible rfl))
  try simp only [Act.put, List.setIfInBounds_toArray, List.set_cons_zero, List.set_cons_succ]
  refine wpAnyK_early (i := 4) (m := 5) (oi := ?_) (v := ?_) ?_ (by kernel_rfl) (by kernel_rfl) (by kernel_rfl) (fun _ _ _ h => h) (by decide) (by kernel_rfl) (by kernel_rfl) (by kernel_rfl) (by kernel_rfl) ?_ trivial HR0.out ?_
  rotate_left 2
  · (simp only [List.getElem?_toArray, List.getElem?_cons_succ, List.getElem?_cons_zero]; rfl)
  · (refine Or.inl ⟨by rfl, ?_⟩; intro W hSw; have hbw := hSw.2; have hq : W.cell? ⟨B, 4, none⟩ = some (.int .u64 (s.r 4)) := hbw; clear hSw hbw; go_simp; try with_reducible rfl)
  try simp only [Act.put, List.setIfInBounds_toArray, List.set_cons_zero, List.set_cons_succ]
  refine wpAnyK_take (i := 5) (oi := ?_) (v := ?_) ?_ (by kernel_rfl) (by kernel_rfl) (by kernel_rfl) (fun _ _ _ h => h) (by decide) ?_ trivial (fun _ => HR0.out) ?_
  rotate_left 2
  · (simp only [List.getElem?_toArray, List.getElem?_cons_succ, List.getElem?_cons_zero]; rfl)
  · (first | exact Or.inr ⟨by rfl, rfl⟩ | (refine Or.inl ⟨by rfl, ?_⟩; intro W hSw; clear hSw; go_simp; try with_reducible rfl))
  try simp only [Act.put, List.setIfInBounds_toArray, List.set_cons_zero, List.set_cons_succ]
  refine wpAnyK_take (i := 6) (oi := ?_) (v := ?_) ?_ (by kernel_rfl) (by kernel_rfl) (by kernel_rfl) (fun _ _ _ h => h) (by decide) ?_ trivial (fun _ => HR0.out) ?_
  rotate_left 2
  · (simp only [List.getElem?_toArray, List.getElem?_cons_succ, List.getElem?_cons_zero]; rfl)
  · (first | exact Or.inr ⟨by rfl, rfl⟩ | (refine Or.inl ⟨by rfl, ?_⟩; intro W hSw; clear hSw; go_simp; try with_reducible rfl))
  try simp only [Act.put, List.setIfInBounds_toArray, List.set_cons_zero, List.set_cons_succ]
  refine wpAnyK_take (i := 7) (oi := ?_) (v := ?_) ?_ (by kernel_rfl) (by kernel_rfl) (by kernel_rfl) (fun _ _ _ h => h) (by decide) ?_ trivial (fun _ => HR0.out) ?_
  rotate_left 2
  · (simp only [List.getElem?_toArray, List.getElem?_cons_succ, List.getElem?_cons_zero]; rfl)
  · (first | exact Or.inr ⟨by rfl, rfl⟩ | (refine Or.inl ⟨by rfl, ?_⟩; intro W hSw; clear hSw; go_simp; try with_reducible rfl))
  try simp only [Act.put, List.setIfInBounds_toArray, List.set_cons_zero, List.set_cons_succ]
  refine wpAnyK_take (i := 8) (oi := ?_) (v := ?_) ?_ (by kernel_rfl) (by kernel_rfl) (by kernel_rfl) (fun _ _ _ h => h) (by decide) ?_ trivial (fun _ => HR0.out) ?_
  rotate_left 2
  · (simp only [List.getElem?_toArray, List.getElem?_cons_succ, List.getElem?_cons_zero]; rfl)
  · (first | exact Or.inr ⟨by rfl, rfl⟩ | (refine Or.inl ⟨by rfl, ?_⟩; intro W hSw; clear hSw; go_simp; try with_reducible rfl))
  try simp only [Act.put, List.setIfInBounds_toArray, List.set_cons_zero, List.set_cons_succ]
  have hc := HR0.out
  have hz := (HC.out.st.reg (i := 4) (by omega)).2
  refine wpAnyK_one (i := 9) (o := ?_) (by kernel_rfl) ?_ (fun K hK => ?_)
  rotate_left 1
  · (simp only [List.getElem?_toArray, List.getElem?_cons_succ, List.getElem?_cons_zero]; rfl)
  go_simp
  refine hK.out _ _ trivial (fun h => by cases h) ?_
  clear hK K
  try simp only [Act.put, List.setIfInBounds_toArray, List.set_cons_zero, List.set_cons_succ]
  refine wpAnyK_done (by kernel_rfl) ?_ _
  refine NoPanic.normal ?_
  have HC1 := Lib.hid (HC.out.setR (i := 4) (by omega) HBD.out.1 HBD.out.2)
  have HK1 := Lib.hid (show Kept (fun k => R k ∧ k ≠ B) w (w.drew.setCell ⟨B, 4, none⟩ (.int .u64 sp)) from ((Kept.refl _ w).drew).trans (keptB w.drew B 4 _))
  clear hc hz HC HR0 hw
  obtain ⟨w1, hw1⟩ : ∃ w1, w.drew.setCell ⟨B, 4, none⟩ (.int .u64 sp) = w1 := ⟨_, rfl⟩
  rw [hw1] at HC1 HK1
  refine (congrArg _ hw1).mpr ?_
  clear hw1
  have c4 : w1.cell? ⟨B, 4, none⟩ = some (.int .u64 sp) := (HC1.out.st.reg (i := 4) (by omega)).1
  go_wp2_with fail
  refine (store_yes R w1 C M m most mp s0 fk fa sp v HC1.out.ok HBD.out.1 HBD.out.2 v0 v1 HC1.out.mem HC1.out.cpu HC1.out.rC HF.out).mono ?_
  rintro e w2 ⟨rfl, hm2, hk2⟩
  have HY := Lib.hid (show DoY R w B M m most (putP mp sp 8 (le8 v)) (s.setR 4 sp) (.returned (.bool true)) w2 from ⟨rfl, hm2, hk2.own HC1.out.st HC1.out.rB, HK1.out.trans (hk2.mono (fun k hk => hk.1))⟩)
  clear hm2 hk2
  go_wp2
  go_ret
  exact HY.out

set_option maxHeartbeats 4000000 in
theorem push_no (R : Nat → Prop) (w : World) (C B M m : Nat) (most : Int) (mp : Int → Option Pg) (s0 : StV) (fk fa : Int) (s : StV) (v : Int) (v0 : 0 ≤ v) (v1 : v < 18446744073709551616) (H : Ctx R w C B M m most mp s0 fk fa s) (hf : (askS mp 2 3 8 (subM (s.r 4)) 8).1 ≠ 0) :
    Calls Try.prog 79 #[.pointer (some ⟨C, 0, none⟩), .pointer (some ⟨B, 0, none⟩), .int .u64 v] w fun e w' => DoN R w C B M m most (askM mp (askS mp 2 3 8 (subM (s.r 4)) 8)) s0 (askS mp 2 3 8 (subM (s.r 4)) 8).1 (askS mp 2 3 8 (subM (s.r 4)) 8).2.1 e w' := by
  have hw : IntKind.u64.wrap (s.r 4 - 8) = subM (s.r 4) := by rw [IntKind.wrap_u64]; unfold subM; omega
  have HC := Lib.hid H.drew
  have HH := Lib.hid H
  have HF := Lib.hid hf
  have HBD := Lib.hid (subM_bd (s.r 4))
  clear H hf
  generalize subM (s.r 4) = sp at *
  have c4 := (HC.out.st.reg (i := 4) (by omega))
  have HR0 := Lib.hid (show w.drew.cell? ⟨B, 4, none⟩ = some (.int .u64 (s.r 4)) from c4.1)
  clear c4
  go_enter Try.func79, Try.ntmps79
  go_upto_region 1 with (fail)
  refine wp_region_noPanic ?_
  refine wp_region_K (fun _ => True) (fun W => W.cell? ⟨B, 4, none⟩ = some (.int .u64 (s.r 4))) 9 (by kernel_rfl) ?_
  refine wpAnyK_take (i := 0) (oi := ?_) (v := ?_) ?_ (by kernel_rfl) (by kernel_rfl) (by kernel_rfl) (fun _ _ _ h => h) (by decide) ?_ trivial (fun _ => HR0.out) ?_
  rotate_left 2
  · (simp only [List.getElem?_toArray, List.getElem?_cons_succ, List.getElem?_cons_zero]; rfl)
  · (first | exact Or.inr ⟨by rfl, rfl⟩ | (refine Or.inl ⟨by rfl, ?_⟩; intro W hSw; clear hSw; go_simp; try with_reducible rfl))
  try simp only [Act.put, List.setIfInBounds_toArray, List.set_cons_zero, List.set_cons_succ]
  refine wpAnyK_take (i := 1) (oi := ?_) (v := ?_) ?_ (by kernel_rfl) (by kernel_rfl) (by kernel_rfl) (fun _ _ _ h => h) (by decide) ?_ trivial (fun _ => HR0.out) ?_
  rotate_left 2
  · (simp only [List.getElem?_toArray, List.getElem?_cons_succ, List.getElem?_cons_zero]; rfl)
  · (first | exact Or.inr ⟨by rfl, rfl⟩ | (refine Or.inl ⟨by rfl, ?_⟩; intro W hSw; clear hSw; go_simp; try with_reducible rfl))
  try simp only [Act.put, List.setIfInBounds_toArray, List.set_cons_zero, List.set_cons_succ]
  refine wpAnyK_take (i := 2) (oi := ?_) (v := ?_) ?_ (by kernel_rfl) (by kernel_rfl) (by kernel_rfl) (fun _ _ _ h => h) (by decide) ?_ trivial (fun _ => HR0.out) ?_
  rotate_left 2
  · (simp only [List.getElem?_toArray, List.getElem?_cons_succ, List.getElem?_cons_zero]; rfl)
  · (first | exact Or.inr ⟨by rfl, rfl⟩ | (refine Or.inl ⟨by rfl, ?_⟩; intro W hSw; clear hSw; go_simp; try with_reducible rfl))
  try simp only [Act.put, List.setIfInBounds_toArray, List.set_cons_zero, List.set_cons_succ]
  refine wpAnyK_take (i := 3) (oi := ?_) (v := ?_) ?_ (by kernel_rfl) (by kernel_rfl) (by kernel_rfl) (fun _ _ _ h => h) (by decide) ?_ trivial (fun _ => HR0.out) ?_
  rotate_left 2
  · (simp only [List.getElem?_toArray, List.getElem?_cons_succ, List.getElem?_cons_zero]; rfl)
  · (first | exact Or.inr ⟨by rfl, rfl⟩ | (refine Or.inl ⟨by rfl, ?_⟩; intro W hSw; clear hSw; go_simp; try with_reducible rfl))
  try simp only [Act.put, List.setIfInBounds_toArray, List.set_cons_zero, List.set_cons_succ]
  refine wpAnyK_early (i := 4) (m := 5) (oi := ?_) (v := ?_) ?_ (by kernel_rfl) (by kernel_rfl) (by kernel_rfl) (fun _ _ _ h => h) (by decide) (by kernel_rfl) (by kernel_rfl) (by kernel_rfl) (by kernel_rfl) ?_ trivial HR0.out ?_
  rotate_left 2
  · (simp only [List.getElem?_toArray, List.getElem?_cons_succ, List.getElem?_cons_zero]; rfl)
  · (refine Or.inl ⟨by rfl, ?_⟩; intro W hSw; have hbw := hSw.2; have hq : W.cell? ⟨B, 4, none⟩ = some (.int .u64 (s.r 4)) := hbw; clear hSw hbw; go_simp; try with_reducible rfl)
  try simp only [Act.put, List.setIfInBounds_toArray, List.set_cons_zero, List.set_cons_succ]
  refine wpAnyK_take (i := 5) (oi := ?_) (v := ?_) ?_ (by kernel_rfl) (by kernel_rfl) (by kernel_rfl) (fun _ _ _ h => h) (by decide) ?_ trivial (fun _ => HR0.out) ?_
  rotate_left 2
  · (simp only [List.getElem?_toArray, List.getElem?_cons_succ, List.getElem?_cons_zero]; rfl)
  · (first | exact Or.inr ⟨by rfl, rfl⟩ | (refine Or.inl ⟨by rfl, ?_⟩; intro W hSw; clear hSw; go_simp; try with_reducible rfl))
  try simp only [Act.put, List.setIfInBounds_toArray, List.set_cons_zero, List.set_cons_succ]
  refine wpAnyK_take (i := 6) (oi := ?_) (v := ?_) ?_ (by kernel_rfl) (by kernel_rfl) (by kernel_rfl) (fun _ _ _ h => h) (by decide) ?_ trivial (fun _ => HR0.out) ?_
  rotate_left 2
  · (simp only [List.getElem?_toArray, List.getElem?_cons_succ, List.getElem?_cons_zero]; rfl)
  · (first | exact Or.inr ⟨by rfl, rfl⟩ | (refine Or.inl ⟨by rfl, ?_⟩; intro W hSw; clear hSw; go_simp; try with_reducible rfl))
  try simp only [Act.put, List.setIfInBounds_toArray, List.set_cons_zero, List.set_cons_succ]
  refine wpAnyK_take (i := 7) (oi := ?_) (v := ?_) ?_ (by kernel_rfl) (by kernel_rfl) (by kernel_rfl) (fun _ _ _ h => h) (by decide) ?_ trivial (fun _ => HR0.out) ?_
  rotate_left 2
  · (simp only [List.getElem?_toArray, List.getElem?_cons_succ, List.getElem?_cons_zero]; rfl)
  · (first | exact Or.inr ⟨by rfl, rfl⟩ | (refine Or.inl ⟨by rfl, ?_⟩; intro W hSw; clear hSw; go_simp; try with_reducible rfl))
  try simp only [Act.put, List.setIfInBounds_toArray, List.set_cons_zero, List.set_cons_succ]
  refine wpAnyK_take (i := 8) (oi := ?_) (v := ?_) ?_ (by kernel_rfl) (by kernel_rfl) (by kernel_rfl) (fun _ _ _ h => h) (by decide) ?_ trivial (fun _ => HR0.out) ?_
  rotate_left 2
  · (simp only [List.getElem?_toArray, List.getElem?_cons_succ, List.getElem?_cons_zero]; rfl)
  · (first | exact Or.inr ⟨by rfl, rfl⟩ | (refine Or.inl ⟨by rfl, ?_⟩; intro W hSw; clear hSw; go_simp; try with_reducible rfl))
  try simp only [Act.put, List.setIfInBounds_toArray, List.set_cons_zero, List.set_cons_succ]
  have hc := HR0.out
  have hz := (HC.out.st.reg (i := 4) (by omega)).2
  refine wpAnyK_one (i := 9) (o := ?_) (by kernel_rfl) ?_ (fun K hK => ?_)
  rotate_left 1
  · (simp only [List.getElem?_toArray, List.getElem?_cons_succ, List.getElem?_cons_zero]; rfl)
  go_simp
  refine hK.out _ _ trivial (fun h => by cases h) ?_
  clear hK K
  try simp only [Act.put, List.setIfInBounds_toArray, List.set_cons_zero, List.set_cons_succ]
  refine wpAnyK_done (by kernel_rfl) ?_ _
  refine NoPanic.normal ?_
  have HC1 := Lib.hid (HC.out.setR (i := 4) (by omega) HBD.out.1 HBD.out.2)
  have HK1 := Lib.hid (show Kept (fun k => R k ∧ k ≠ B) w (w.drew.setCell ⟨B, 4, none⟩ (.int .u64 sp)) from ((Kept.refl _ w).drew).trans (keptB w.drew B 4 _))
  clear hc hz HC HR0 hw
  obtain ⟨w1, hw1⟩ : ∃ w1, w.drew.setCell ⟨B, 4, none⟩ (.int .u64 sp) = w1 := ⟨_, rfl⟩
  rw [hw1] at HC1 HK1
  refine (congrArg _ hw1).mpr ?_
  clear hw1
  have c4 : w1.cell? ⟨B, 4, none⟩ = some (.int .u64 sp) := (HC1.out.st.reg (i := 4) (by omega)).1
  go_wp2_with fail
  refine (store_no R w1 C M m most mp s0 fk fa sp v HC1.out.ok HBD.out.1 HBD.out.2 v0 v1 HC1.out.mem HC1.out.cpu HC1.out.rC HF.out).mono ?_
  rintro e w2 ⟨rfl, hm2, hc2, hk2⟩
  have HY := Lib.hid (show DoN R w C B M m most (askM mp (askS mp 2 3 8 sp 8)) s0 (askS mp 2 3 8 sp 8).1 (askS mp 2 3 8 sp 8).2.1 (.returned (.bool false)) w2 from ⟨rfl, hm2, hc2, (HK1.out.mono (fun k hk => ⟨hk.1, hk.2.2⟩)).trans (hk2.mono (fun k hk => ⟨hk.1, hk.2.1⟩))⟩)
  clear hm2 hc2 hk2
  go_wp2
  go_ret
  exact HY.out

set_option maxHeartbeats 4000000 in
theorem pop_reg (R : Nat → Prop) (w : World) (C B M m : Nat) (most : Int) (mp : Int → Option Pg) (s0 : StV) (fk fa : Int) (s : StV) (i : Nat) (hi : i < 16) (H : Ctx R w C B M m most mp s0 fk fa s) (hf : (askS mp 1 2 8 (s.r 4) 8).1 = 0) :
    Calls Try.prog 80 #[.pointer (some ⟨C, 0, none⟩), .pointer (some ⟨B, 0, none⟩), .pointer (some ⟨B, i, none⟩)] w fun e w' => DoY R w B M m most mp ((s.setR 4 (addM (s.r 4))).setR i (numM mp (s.r 4))) e w' := by
  have hw : IntKind.u64.wrap (s.r 4 + 8) = addM (s.r 4) := by rw [IntKind.wrap_u64]; unfold addM; omega
  have HC := Lib.hid H.drew
  have HF := Lib.hid hf
  have HBD := Lib.hid (addM_bd (s.r 4))
  have HR4 := Lib.hid (H.sok.r 4 (by omega))
  clear hf
  generalize addM (s.r 4) = up at *
  have c4 : w.cell? ⟨B, 4, none⟩ = some (.int .u64 (s.r 4)) := (H.st.reg (i := 4) (by omega)).1
  have HR0 := Lib.hid (show w.drew.cell? ⟨B, 4, none⟩ = some (.int .u64 (s.r 4)) from c4)
  clear H
  go_enter Try.func80, Try.ntmps80
  go_upto_region 2 with (fail)
  refine wp_region_noPanic ?_
  refine wp_region_K (fun _ => True) (fun W => W.cell? ⟨B, 4, none⟩ = some (.int .u64 (s.r 4))) 9 (by kernel_rfl) ?_
  refine wpAnyK_take (i := 0) (oi := ?_) (v := ?_) ?_ (by kernel_rfl) (by kernel_rfl) (by kernel_rfl) (fun _ _ _ h => h) (by decide) ?_ trivial (fun _ => HR0.out) ?_
  rotate_left 2
  · (simp only [List.getElem?_toArray, List.getElem?_cons_succ, List.getElem?_cons_zero]; rfl)
  · (first | exact Or.inr ⟨by rfl, rfl⟩ | (refine Or.inl ⟨by rfl, ?_⟩; intro W hSw; clear hSw; go_simp; try with_reducible rfl))
  try simp only [Act.put, List.setIfInBounds_toArray, List.set_cons_zero, List.set_cons_succ]
  refine wpAnyK_take (i := 1) (oi := ?_) (v := ?_) ?_ (by kernel_rfl) (by kernel_rfl) (by kernel_rfl) (fun _ _ _ h => h) (by decide) ?_ trivial (fun _ => HR0.out) ?_
  rotate_left 2
  · (simp only [List.getElem?_toArray, List.getElem?_cons_succ, List.getElem?_cons_zero]; rfl)
  · (first | exact Or.inr ⟨by rfl, rfl⟩ | (refine Or.inl ⟨by rfl, ?_⟩; intro W hSw; clear hSw; go_simp; try with_reducible rfl))
  try simp only [Act.put, List.setIfInBounds_toArray, List.set_cons_zero, List.set_cons_succ]
  refine wpAnyK_take (i := 2) (oi := ?_) (v := ?_) ?_ (by kernel_rfl) (by kernel_rfl) (by kernel_rfl) (fun _ _ _ h => h) (by decide) ?_ trivial (fun _ => HR0.out) ?_
  rotate_left 2
  · (simp only [List.getElem?_toArray, List.getElem?_cons_succ, List.getElem?_cons_zero]; rfl)
  · (first | exact Or.inr ⟨by rfl, rfl⟩ | (refine Or.inl ⟨by rfl, ?_⟩; intro W hSw; clear hSw; go_simp; try with_reducible rfl))
  try simp only [Act.put, List.setIfInBounds_toArray, List.set_cons_zero, List.set_cons_succ]
  refine wpAnyK_take (i := 3) (oi := ?_) (v := ?_) ?_ (by kernel_rfl) (by kernel_rfl) (by kernel_rfl) (fun _ _ _ h => h) (by decide) ?_ trivial (fun _ => HR0.out) ?_
  rotate_left 2
  · (simp only [List.getElem?_toArray, List.getElem?_cons_succ, List.getElem?_cons_zero]; rfl)
  · (first | exact Or.inr ⟨by rfl, rfl⟩ | (refine Or.inl ⟨by rfl, ?_⟩; intro W hSw; clear hSw; go_simp; try with_reducible rfl))
  try simp only [Act.put, List.setIfInBounds_toArray, List.set_cons_zero, List.set_cons_succ]
  refine wpAnyK_early (i := 4) (m := 5) (oi := ?_) (v := ?_) ?_ (by kernel_rfl) (by kernel_rfl) (by kernel_rfl) (fun _ _ _ h => h) (by decide) (by kernel_rfl) (by kernel_rfl) (by kernel_rfl) (by kernel_rfl) ?_ trivial HR0.out ?_
  rotate_left 2
  · (simp only [List.getElem?_toArray, List.getElem?_cons_succ, List.getElem?_cons_zero]; rfl)
  · (refine Or.inl ⟨by rfl, ?_⟩; intro W hSw; have hbw := hSw.2; have hq : W.cell? ⟨B, 4, none⟩ = some (.int .u64 (s.r 4)) := hbw; clear hSw hbw; go_simp; try with_reducible rfl)
  try simp only [Act.put, List.setIfInBounds_toArray, List.set_cons_zero, List.set_cons_succ]
  refine wpAnyK_take (i := 5) (oi := ?_) (v := ?_) ?_ (by kernel_rfl) (by kernel_rfl) (by kernel_rfl) (fun _ _ _ h => h) (by decide) ?_ trivial (fun _ => HR0.out) ?_
  rotate_left 2
  · (simp only [List.getElem?_toArray, List.getElem?_cons_succ, List.getElem?_cons_zero]; rfl)
  · (first | exact Or.inr ⟨by rfl, rfl⟩ | (refine Or.inl ⟨by rfl, ?_⟩; intro W hSw; clear hSw; go_simp; try with_reducible rfl))
  try simp only [Act.put, List.setIfInBounds_toArray, List.set_cons_zero, List.set_cons_succ]
  refine wpAnyK_take (i := 6) (oi := ?_) (v := ?_) ?_ (by kernel_rfl) (by kernel_rfl) (by kernel_rfl) (fun _ _ _ h => h) (by decide) ?_ trivial (fun _ => HR0.out) ?_
  rotate_left 2
  · (simp only [List.getElem?_toArray, List.getElem?_cons_succ, List.getElem?_cons_zero]; rfl)
  · (first | exact Or.inr ⟨by rfl, rfl⟩ | (refine Or.inl ⟨by rfl, ?_⟩; intro W hSw; clear hSw; go_simp; try with_reducible rfl))
  try simp only [Act.put, List.setIfInBounds_toArray, List.set_cons_zero, List.set_cons_succ]
  refine wpAnyK_take (i := 7) (oi := ?_) (v := ?_) ?_ (by kernel_rfl) (by kernel_rfl) (by kernel_rfl) (fun _ _ _ h => h) (by decide) ?_ trivial (fun _ => HR0.out) ?_
  rotate_left 2
  · (simp only [List.getElem?_toArray, List.getElem?_cons_succ, List.getElem?_cons_zero]; rfl)
  · (first | exact Or.inr ⟨by rfl, rfl⟩ | (refine Or.inl ⟨by rfl, ?_⟩; intro W hSw; clear hSw; go_simp; try with_reducible rfl))
  try simp only [Act.put, List.setIfInBounds_toArray, List.set_cons_zero, List.set_cons_succ]
  refine wpAnyK_take (i := 8) (oi := ?_) (v := ?_) ?_ (by kernel_rfl) (by kernel_rfl) (by kernel_rfl) (fun _ _ _ h => h) (by decide) ?_ trivial (fun _ => HR0.out) ?_
  rotate_left 2
  · (simp only [List.getElem?_toArray, List.getElem?_cons_succ, List.getElem?_cons_zero]; rfl)
  · (first | exact Or.inr ⟨by rfl, rfl⟩ | (refine Or.inl ⟨by rfl, ?_⟩; intro W hSw; clear hSw; go_simp; try with_reducible rfl))
  try simp only [Act.put, List.setIfInBounds_toArray, List.set_cons_zero, List.set_cons_succ]
  have hc := HR0.out
  have hz := (HC.out.st.reg (i := 4) (by omega)).2
  refine wpAnyK_one (i := 9) (o := ?_) (by kernel_rfl) ?_ (fun K hK => ?_)
  rotate_left 1
  · (simp only [List.getElem?_toArray, List.getElem?_cons_succ, List.getElem?_cons_zero]; rfl)
  go_simp
  refine hK.out _ _ trivial (fun h => by cases h) ?_
  clear hK K
  try simp only [Act.put, List.setIfInBounds_toArray, List.set_cons_zero, List.set_cons_succ]
  refine wpAnyK_done (by kernel_rfl) ?_ _
  refine NoPanic.normal ?_
  have HC1 := Lib.hid (HC.out.setR (i := 4) (by omega) HBD.out.1 HBD.out.2)
  have HK1 := Lib.hid (show Kept (fun k => R k ∧ k ≠ B) w (w.drew.setCell ⟨B, 4, none⟩ (.int .u64 up)) from ((Kept.refl _ w).drew).trans (keptB w.drew B 4 _))
  clear hc hz HC HR0 hw c4
  obtain ⟨w1, hw1⟩ : ∃ w1, w.drew.setCell ⟨B, 4, none⟩ (.int .u64 up) = w1 := ⟨_, rfl⟩
  rw [hw1] at HC1 HK1
  refine (congrArg _ hw1).mpr ?_
  clear hw1
  go_wp2_with fail
  refine (load_yes R w1 C M m most mp s0 fk fa (s.r 4) B i _ HC1.out.ok HR4.out.1 HR4.out.2 HC1.out.mem HC1.out.cpu HC1.out.rC HC1.out.rB (HC1.out.st.reg hi).1 (HC1.out.st.reg hi).2 HF.out).mono ?_
  rintro e w2 ⟨rfl, w3, hk3, hm3, rfl⟩
  have hb := numM_bd HC1.out.ok (s.r 4)
  have HX := HC1.out.keep hm3 hk3
  have HX2 := HX.setR hi hb.1 hb.2
  have HY := Lib.hid (HX2.yes (W := w) ((HK1.out.trans (hk3.mono (fun k hk => hk.1))).trans (keptB w3 B i _)))
  clear hb HX HX2 hk3 hm3
  generalize w3.setCell ⟨B, i, none⟩ (.int .u64 (numM mp (s.r 4))) = w4 at *
  go_wp2
  go_ret
  exact HY.out

set_option maxHeartbeats 4000000 in
theorem pop_ip (R : Nat → Prop) (w : World) (C B M m : Nat) (most : Int) (mp : Int → Option Pg) (s0 : StV) (fk fa : Int) (s : StV) (H : Ctx R w C B M m most mp s0 fk fa s) (hf : (askS mp 1 2 8 (s.r 4) 8).1 = 0) :
    Calls Try.prog 80 #[.pointer (some ⟨C, 0, none⟩), .pointer (some ⟨B, 0, none⟩), .pointer (some ⟨B, 16, none⟩)] w fun e w' => DoY R w B M m most mp ((s.setR 4 (addM (s.r 4))).setIp (numM mp (s.r 4))) e w' := by
  have hw : IntKind.u64.wrap (s.r 4 + 8) = addM (s.r 4) := by rw [IntKind.wrap_u64]; unfold addM; omega
  have HC := Lib.hid H.drew
  have HF := Lib.hid hf
  have HBD := Lib.hid (addM_bd (s.r 4))
  have HR4 := Lib.hid (H.sok.r 4 (by omega))
  clear hf
  generalize addM (s.r 4) = up at *
  have c4 : w.cell? ⟨B, 4, none⟩ = some (.int .u64 (s.r 4)) := (H.st.reg (i := 4) (by omega)).1
  have HR0 := Lib.hid (show w.drew.cell? ⟨B, 4, none⟩ = some (.int .u64 (s.r 4)) from c4)
  clear H
  go_enter Try.func80, Try.ntmps80
  go_upto_region 2 with (fail)
  refine wp_region_noPanic ?_
  refine wp_region_K (fun _ => True) (fun W => W.cell? ⟨B, 4, none⟩ = some (.int .u64 (s.r 4))) 9 (by kernel_rfl) ?_
  refine wpAnyK_take (i := 0) (oi := ?_) (v := ?_) ?_ (by kernel_rfl) (by kernel_rfl) (by kernel_rfl) (fun _ _ _ h => h) (by decide) ?_ trivial (fun _ => HR0.out) ?_
  rotate_left 2
  · (simp only [List.getElem?_toArray, List.getElem?_cons_succ, List.getElem?_cons_zero]; rfl)
  · (first | exact Or.inr ⟨by rfl, rfl⟩ | (refine Or.inl ⟨by rfl, ?_⟩; intro W hSw; clear hSw; go_simp; try with_reducible rfl))
  try simp only [Act.put, List.setIfInBounds_toArray, List.set_cons_zero, List.set_cons_succ]
  refine wpAnyK_take (i := 1) (oi := ?_) (v := ?_) ?_ (by kernel_rfl) (by kernel_rfl) (by kernel_rfl) (fun _ _ _ h => h) (by decide) ?_ trivial (fun _ => HR0.out) ?_
  rotate_left 2
  · (simp only [List.getElem?_toArray, List.getElem?_cons_succ, List.getElem?_cons_zero]; rfl)
  · (first | exact Or.inr ⟨by rfl, rfl⟩ | (refine Or.inl ⟨by rfl, ?_⟩; intro W hSw; clear hSw; go_simp; try with_reducible rfl))
  try simp only [Act.put, List.setIfInBounds_toArray, List.set_cons_zero, List.set_cons_succ]
  refine wpAnyK_take (i := 2) (oi := ?_) (v := ?_) ?_ (by kernel_rfl) (by kernel_rfl) (by kernel_rfl) (fun _ _ _ h => h) (by decide) ?_ trivial (fun _ => HR0.out) ?_
  rotate_left 2
  · (simp only [List.getElem?_toArray, List.getElem?_cons_succ, List.getElem?_cons_zero]; rfl)
  · (first | exact Or.inr ⟨by rfl, rfl⟩ | (refine Or.inl ⟨by rfl, ?_⟩; intro W hSw; clear hSw; go_simp; try with_reducible rfl))
  try simp only [Act.put, List.setIfInBounds_toArray, List.set_cons_zero, List.set_cons_succ]
  refine wpAnyK_take (i := 3) (oi := ?_) (v := ?_) ?_ (by kernel_rfl) (by kernel_rfl) (by kernel_rfl) (fun _ _ _ h => h) (by decide) ?_ trivial (fun _ => HR0.out) ?_
  rotate_left 2
  · (simp only [List.getElem?_toArray, List.getElem?_cons_succ, List.getElem?_cons_zero]; rfl)
  · (first | exact Or.inr ⟨by rfl, rfl⟩ | (refine Or.inl ⟨by rfl, ?_⟩; intro W hSw; clear hSw; go_simp; try with_reducible rfl))
  try simp only [Act.put, List.setIfInBounds_toArray, List.set_cons_zero, List.set_cons_succ]
  refine wpAnyK_early (i := 4) (m := 5) (oi := ?_) (v := ?_) ?_ (by kernel_rfl) (by kernel_rfl) (by kernel_rfl) (fun _ _ _ h => h) (by decide) (by kernel_rfl) (by kernel_rfl) (by kernel_rfl) (by kernel_rfl) ?_ trivial HR0.out ?_
  rotate_left 2
  · (simp only [List.getElem?_toArray, List.getElem?_cons_succ, List.getElem?_cons_zero]; rfl)
  · (refine Or.inl ⟨by rfl, ?_⟩; intro W hSw; have hbw := hSw.2; have hq : W.cell? ⟨B, 4, none⟩ = some (.int .u64 (s.r 4)) := hbw; clear hSw hbw; go_simp; try with_reducible rfl)
  try simp only [Act.put, List.setIfInBounds_toArray, List.set_cons_zero, List.set_cons_succ]
  refine wpAnyK_take (i := 5) (oi := ?_) (v := ?_) ?_ (by kernel_rfl) (by kernel_rfl) (by kernel_rfl) (fun _ _ _ h => h) (by decide) ?_ trivial (fun _ => HR0.out) ?_
  rotate_left 2
  · (simp only [List.getElem?_toArray, List.getElem?_cons_succ, List.getElem?_cons_zero]; rfl)
  · (first | exact Or.inr ⟨by rfl, rfl⟩ | (refine Or.inl ⟨by rfl, ?_⟩; intro W hSw; clear hSw; go_simp; try with_reducible rfl))
  try simp only [Act.put, List.setIfInBounds_toArray, List.set_cons_zero, List.set_cons_succ]
  refine wpAnyK_take (i := 6) (oi := ?_) (v := ?_) ?_ (by kernel_rfl) (by kernel_rfl) (by kernel_rfl) (fun _ _ _ h => h) (by decide) ?_ trivial (fun _ => HR0.out) ?_
  rotate_left 2
  · (simp only [List.getElem?_toArray, List.getElem?_cons_succ, List.getElem?_cons_zero]; rfl)
  · (first | exact Or.inr ⟨by rfl, rfl⟩ | (refine Or.inl ⟨by rfl, ?_⟩; intro W hSw; clear hSw; go_simp; try with_reducible rfl))
  try simp only [Act.put, List.setIfInBounds_toArray, List.set_cons_zero, List.set_cons_succ]
  refine wpAnyK_take (i := 7) (oi := ?_) (v := ?_) ?_ (by kernel_rfl) (by kernel_rfl) (by kernel_rfl) (fun _ _ _ h => h) (by decide) ?_ trivial (fun _ => HR0.out) ?_
  rotate_left 2
  · (simp only [List.getElem?_toArray, List.getElem?_cons_succ, List.getElem?_cons_zero]; rfl)
  · (first | exact Or.inr ⟨by rfl, rfl⟩ | (refine Or.inl ⟨by rfl, ?_⟩; intro W hSw; clear hSw; go_simp; try with_reducible rfl))
  try simp only [Act.put, List.setIfInBounds_toArray, List.set_cons_zero, List.set_cons_succ]
  refine wpAnyK_take (i := 8) (oi := ?_) (v := ?_) ?_ (by kernel_rfl) (by kernel_rfl) (by kernel_rfl) (fun _ _ _ h => h) (by decide) ?_ trivial (fun _ => HR0.out) ?_
  rotate_left 2
  · (simp only [List.getElem?_toArray, List.getElem?_cons_succ, List.getElem?_cons_zero]; rfl)
  · (first | exact Or.inr ⟨by rfl, rfl⟩ | (refine Or.inl ⟨by rfl, ?_⟩; intro W hSw; clear hSw; go_simp; try with_reducible rfl))
  try simp only [Act.put, List.setIfInBounds_toArray, List.set_cons_zero, List.set_cons_succ]
  have hc := HR0.out
  have hz := (HC.out.st.reg (i := 4) (by omega)).2
  refine wpAnyK_one (i := 9) (o := ?_) (by kernel_rfl) ?_ (fun K hK => ?_)
  rotate_left 1
  · (simp only [List.getElem?_toArray, List.getElem?_cons_succ, List.getElem?_cons_zero]; rfl)
  go_simp
  refine hK.out _ _ trivial (fun h => by cases h) ?_
  clear hK K
  try simp only [Act.put, List.setIfInBounds_toArray, List.set_cons_zero, List.set_cons_succ]
  refine wpAnyK_done (by kernel_rfl) ?_ _
  refine NoPanic.normal ?_
  have HC1 := Lib.hid (HC.out.setR (i := 4) (by omega) HBD.out.1 HBD.out.2)
  have HK1 := Lib.hid (show Kept (fun k => R k ∧ k ≠ B) w (w.drew.setCell ⟨B, 4, none⟩ (.int .u64 up)) from ((Kept.refl _ w).drew).trans (keptB w.drew B 4 _))
  clear hc hz HC HR0 hw c4
  obtain ⟨w1, hw1⟩ : ∃ w1, w.drew.setCell ⟨B, 4, none⟩ (.int .u64 up) = w1 := ⟨_, rfl⟩
  rw [hw1] at HC1 HK1
  refine (congrArg _ hw1).mpr ?_
  clear hw1
  go_wp2_with fail
  refine (load_yes R w1 C M m most mp s0 fk fa (s.r 4) B 16 _ HC1.out.ok HR4.out.1 HR4.out.2 HC1.out.mem HC1.out.cpu HC1.out.rC HC1.out.rB HC1.out.st.ipc.1 HC1.out.st.ipc.2 HF.out).mono ?_
  rintro e w2 ⟨rfl, w3, hk3, hm3, rfl⟩
  have hb := numM_bd HC1.out.ok (s.r 4)
  have HX := HC1.out.keep hm3 hk3
  have HX2 := HX.setIp hb.1 hb.2
  have HY := Lib.hid (HX2.yes (W := w) ((HK1.out.trans (hk3.mono (fun k hk => hk.1))).trans (keptB w3 B 16 _)))
  clear hb HX HX2 hk3 hm3
  generalize w3.setCell ⟨B, 16, none⟩ (.int .u64 (numM mp (s.r 4))) = w4 at *
  go_wp2
  go_ret
  exact HY.out

set_option maxHeartbeats 4000000 in
theorem pop_no (R : Nat → Prop) (w : World) (C B M m : Nat) (most : Int) (mp : Int → Option Pg) (s0 : StV) (fk fa : Int) (s : StV) (tov : Value) (H : Ctx R w C B M m most mp s0 fk fa s) (hf : (askS mp 1 2 8 (s.r 4) 8).1 ≠ 0) :
    Calls Try.prog 80 #[.pointer (some ⟨C, 0, none⟩), .pointer (some ⟨B, 0, none⟩), tov] w fun e w' => DoN R w C B M m most (askM mp (askS mp 1 2 8 (s.r 4) 8)) s0 (askS mp 1 2 8 (s.r 4) 8).1 (askS mp 1 2 8 (s.r 4) 8).2.1 e w' := by
  have hw : IntKind.u64.wrap (s.r 4 + 8) = addM (s.r 4) := by rw [IntKind.wrap_u64]; unfold addM; omega
  have HC := Lib.hid H.drew
  have HF := Lib.hid hf
  have HBD := Lib.hid (addM_bd (s.r 4))
  have HR4 := Lib.hid (H.sok.r 4 (by omega))
  clear hf
  generalize addM (s.r 4) = up at *
  have c4 : w.cell? ⟨B, 4, none⟩ = some (.int .u64 (s.r 4)) := (H.st.reg (i := 4) (by omega)).1
  have HR0 := Lib.hid (show w.drew.cell? ⟨B, 4, none⟩ = some (.int .u64 (s.r 4)) from c4)
  clear H
  go_enter Try.func80, Try.ntmps80
  go_upto_region 2 with (fail)
  refine wp_region_noPanic ?_
  refine wp_region_K (fun _ => True) (fun W => W.cell? ⟨B, 4, none⟩ = some (.int .u64 (s.r 4))) 9 (by kernel_rfl) ?_
  refine wpAnyK_take (i := 0) (oi := ?_) (v := ?_) ?_ (by kernel_rfl) (by kernel_rfl) (by kernel_rfl) (fun _ _ _ h => h) (by decide) ?_ trivial (fun _ => HR0.out) ?_
  rotate_left 2
  · (simp only [List.getElem?_toArray, List.getElem?_cons_succ, List.getElem?_cons_zero]; rfl)
  · (first | exact Or.inr ⟨by rfl, rfl⟩ | (refine Or.inl ⟨by rfl, ?_⟩; intro W hSw; clear hSw; go_simp; try with_reducible rfl))
  try simp only [Act.put, List.setIfInBounds_toArray, List.set_cons_zero, List.set_cons_succ]
  refine wpAnyK_take (i := 1) (oi := ?_) (v := ?_) ?_ (by kernel_rfl) (by kernel_rfl) (by kernel_rfl) (fun _ _ _ h => h) (by decide) ?_ trivial (fun _ => HR0.out) ?_
  rotate_left 2
  · (simp only [List.getElem?_toArray, List.getElem?_cons_succ, List.getElem?_cons_zero]; rfl)
  · (first | exact Or.inr ⟨by rfl, rfl⟩ | (refine Or.inl ⟨by rfl, ?_⟩; intro W hSw; clear hSw; go_simp; try with_reducible rfl))
  try simp only [Act.put, List.setIfInBounds_toArray, List.set_cons_zero, List.set_cons_succ]
  refine wpAnyK_take (i := 2) (oi := ?_) (v := ?_) ?_ (by kernel_rfl) (by kernel_rfl) (by kernel_rfl) (fun _ _ _ h => h) (by decide) ?_ trivial (fun _ => HR0.out) ?_
  rotate_left 2
  · (simp only [List.getElem?_toArray, List.getElem?_cons_succ, List.getElem?_cons_zero]; rfl)
  · (first | exact Or.inr ⟨by rfl, rfl⟩ | (refine Or.inl ⟨by rfl, ?_⟩; intro W hSw; clear hSw; go_simp; try with_reducible rfl))
  try simp only [Act.put, List.setIfInBounds_toArray, List.set_cons_zero, List.set_cons_succ]
  refine wpAnyK_take (i := 3) (oi := ?_) (v := ?_) ?_ (by kernel_rfl) (by kernel_rfl) (by kernel_rfl) (fun _ _ _ h => h) (by decide) ?_ trivial (fun _ => HR0.out) ?_
  rotate_left 2
  · (simp only [List.getElem?_toArray, List.getElem?_cons_succ, List.getElem?_cons_zero]; rfl)
  · (first | exact Or.inr ⟨by rfl, rfl⟩ | (refine Or.inl ⟨by rfl, ?_⟩; intro W hSw; clear hSw; go_simp; try with_reducible rfl))
  try simp only [Act.put, List.setIfInBounds_toArray, List.set_cons_zero, List.set_cons_succ]
  refine wpAnyK_early (i := 4) (m := 5) (oi := ?_) (v := ?_) ?_ (by kernel_rfl) (by kernel_rfl) (by kernel_rfl) (fun _ _ _ h => h) (by decide) (by kernel_rfl) (by kernel_rfl) (by kernel_rfl) (by kernel_rfl) ?_ trivial HR0.out ?_
  rotate_left 2
  · (simp only [List.getElem?_toArray, List.getElem?_cons_succ, List.getElem?_cons_zero]; rfl)
  · (refine Or.inl ⟨by rfl, ?_⟩; intro W hSw; have hbw := hSw.2; have hq : W.cell? ⟨B, 4, none⟩ = some (.int .u64 (s.r 4)) := hbw; clear hSw hbw; go_simp; try with_reducible rfl)
  try simp only [Act.put, List.setIfInBounds_toArray, List.set_cons_zero, List.set_cons_succ]
  refine wpAnyK_take (i := 5) (oi := ?_) (v := ?_) ?_ (by kernel_rfl) (by kernel_rfl) (by kernel_rfl) (fun _ _ _ h => h) (by decide) ?_ trivial (fun _ => HR0.out) ?_
  rotate_left 2
  · (simp only [List.getElem?_toArray, List.getElem?_cons_succ, List.getElem?_cons_zero]; rfl)
  · (first | exact Or.inr ⟨by rfl, rfl⟩ | (refine Or.inl ⟨by rfl, ?_⟩; intro W hSw; clear hSw; go_simp; try with_reducible rfl))
  try simp only [Act.put, List.setIfInBounds_toArray, List.set_cons_zero, List.set_cons_succ]
  refine wpAnyK_take (i := 6) (oi := ?_) (v := ?_) ?_ (by kernel_rfl) (by kernel_rfl) (by kernel_rfl) (fun _ _ _ h => h) (by decide) ?_ trivial (fun _ => HR0.out) ?_
  rotate_left 2
  · (simp only [List.getElem?_toArray, List.getElem?_cons_succ, List.getElem?_cons_zero]; rfl)
  · (first | exact Or.inr ⟨by rfl, rfl⟩ | (refine Or.inl ⟨by rfl, ?_⟩; intro W hSw; clear hSw; go_simp; try with_reducible rfl))
  try simp only [Act.put, List.setIfInBounds_toArray, List.set_cons_zero, List.set_cons_succ]
  refine wpAnyK_take (i := 7) (oi := ?_) (v := ?_) ?_ (by kernel_rfl) (by kernel_rfl) (by kernel_rfl) (fun _ _ _ h => h) (by decide) ?_ trivial (fun _ => HR0.out) ?_
  rotate_left 2
  · (simp only [List.getElem?_toArray, List.getElem?_cons_succ, List.getElem?_cons_zero]; rfl)
  · (first | exact Or.inr ⟨by rfl, rfl⟩ | (refine Or.inl ⟨by rfl, ?_⟩; intro W hSw; clear hSw; go_simp; try with_reducible rfl))
  try simp only [Act.put, List.setIfInBounds_toArray, List.set_cons_zero, List.set_cons_succ]
  refine wpAnyK_take (i := 8) (oi := ?_) (v := ?_) ?_ (by kernel_rfl) (by kernel_rfl) (by kernel_rfl) (fun _ _ _ h => h) (by decide) ?_ trivial (fun _ => HR0.out) ?_
  rotate_left 2
  · (simp only [List.getElem?_toArray, List.getElem?_cons_succ, List.getElem?_cons_zero]; rfl)
  · (first | exact Or.inr ⟨by rfl, rfl⟩ | (refine Or.inl ⟨by rfl, ?_⟩; intro W hSw; clear hSw; go_simp; try with_reducible rfl))
  try simp only [Act.put, List.setIfInBounds_toArray, List.set_cons_zero, List.set_cons_succ]
  have hc := HR0.out
  have hz := (HC.out.st.reg (i := 4) (by omega)).2
  refine wpAnyK_one (i := 9) (o := ?_) (by kernel_rfl) ?_ (fun K hK => ?_)
  rotate_left 1
  · (simp only [List.getElem?_toArray, List.getElem?_cons_succ, List.getElem?_cons_zero]; rfl)
  go_simp
  refine hK.out _ _ trivial (fun h => by cases h) ?_
  clear hK K
  try simp only [Act.put, List.setIfInBounds_toArray, List.set_cons_zero, List.set_cons_succ]
  refine wpAnyK_done (by kernel_rfl) ?_ _
  refine NoPanic.normal ?_
  have HC1 := Lib.hid (HC.out.setR (i := 4) (by omega) HBD.out.1 HBD.out.2)
  have HK1 := Lib.hid (show Kept (fun k => R k ∧ k ≠ B) w (w.drew.setCell ⟨B, 4, none⟩ (.int .u64 up)) from ((Kept.refl _ w).drew).trans (keptB w.drew B 4 _))
  clear hc hz HC HR0 hw c4
  obtain ⟨w1, hw1⟩ : ∃ w1, w.drew.setCell ⟨B, 4, none⟩ (.int .u64 up) = w1 := ⟨_, rfl⟩
  rw [hw1] at HC1 HK1
  refine (congrArg _ hw1).mpr ?_
  clear hw1
  go_wp2_with fail
  refine (load_no R w1 C M m most mp s0 fk fa (s.r 4) tov HC1.out.ok HR4.out.1 HR4.out.2 HC1.out.mem HC1.out.cpu HC1.out.rC HF.out).mono ?_
  rintro e w2 ⟨rfl, hm2, hc2, hk2⟩
  have HY := Lib.hid (show DoN R w C B M m most (askM mp (askS mp 1 2 8 (s.r 4) 8)) s0 (askS mp 1 2 8 (s.r 4) 8).1 (askS mp 1 2 8 (s.r 4) 8).2.1 (.returned (.bool false)) w2 from ⟨rfl, hm2, hc2, (HK1.out.mono (fun k hk => ⟨hk.1, hk.2.2⟩)).trans (hk2.mono (fun k hk => ⟨hk.1, hk.2.1⟩))⟩)
  clear hm2 hc2 hk2
  go_wp2
  go_ret
  exact HY.out

end Go.Proofs.Ythbgmlmcjnlopaa
