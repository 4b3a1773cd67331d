/- the laws of package cpu: a memory and a machine are set up. -/
import Derived.Test.YthbgmlmcjnlopaaMchR
import Derived.Test.YthbgmlmcjnlopaaBl
import Derived.Test.YthbgmlmcjnlopaaBl2
namespace Go.Proofs.Ythbgmlmcjnlopaa
open Go.ChangeShapes Go.WideShapes Go.ChangeAt Go.RowKit
set_option linter.unusedVariables false
set_option linter.unusedSimpArgs false
set_option maxRecDepth 100000

/-- A memory beside what is older. -/
structure Mem0 (R : Nat → Prop) (w0 w : World) (M m : Nat) (most : Int) (mp : Int → Option Pg) : Prop where
  mem : MemAt R w M m most mp
  ok : MpOk mp
  r0 : ∀ k, k < w0.heap.size → R k
  kept : Kept (· < w0.heap.size) w0 w
namespace Mem0
variable {R : Nat → Prop} {w0 w w' : World} {M m : Nat} {most : Int} {mp mp' : Int → Option Pg}
theorem lt (h : Mem0 R w0 w M m most mp) : ∀ k, R k → k < w.heap.size := h.mem.sz
theorem turned {m' : Nat} (h : Mem0 R w0 w M m most mp) (hm : MemAt R w' M m' most mp') (hk : Kept R w w') (ho : MpOk mp') : Mem0 R w0 w' M m' most mp' :=
  ⟨hm, ho, h.r0, h.kept.trans (hk.mono h.r0)⟩
theorem below (h : Mem0 R w0 w M m most mp) (hb : Below w.heap.size w w') : Mem0 (fun k => R k ∨ (w.heap.size ≤ k ∧ k < w'.heap.size)) w0 w' M m most mp :=
  ⟨h.mem.more hb, h.ok, fun k hk => .inl (h.r0 k hk), h.kept.trans (Kept.of_below hb (fun k hk => h.lt k (h.r0 k hk)))⟩
theorem grown {row : Option Nat} (h : Mem0 R w0 w M m most mp) (hg : w.grownBy w' row) (hr : ∀ k, row = some k → R k ∧ w0.heap.size ≤ k) : Mem0 (fun k => R k ∨ (w.heap.size ≤ k ∧ k < w'.heap.size)) w0 w' M m most mp :=
  ⟨h.mem.moreG hg (fun k e => (hr k e).1), h.ok, fun k hk => .inl (h.r0 k hk), h.kept.trans (Kept.of_grown hg (fun k hk => h.lt k (h.r0 k hk)) (fun k e hk => by have := (hr k e).2; have hk' : k < w0.heap.size := hk; omega))⟩
theorem ends (h : Mem0 R w0 w M m most mp) : Below w0.heap.size w0 w := ⟨h.kept.os, h.kept.tape, h.kept.output, h.kept.size, fun i hi => h.kept.block i hi⟩
end Mem0
/-- A row of bytes that grows beside a memory. -/
structure BufL (w0 w : World) (M m : Nat) (most : Int) (mp : Int → Option Pg) (B : Nat) (v : Value) (bs : List Int) : Prop where
  ex : ∃ R, Mem0 R w0 w M m most mp ∧ ∀ k, v.ownBlock = some k → R k
  own : OwnBL w B v bs
  hB : w0.heap.size ≤ B ∧ B ≤ w.heap.size
namespace BufL
variable {w0 w w' : World} {M m B : Nat} {most : Int} {mp mp' : Int → Option Pg} {v v' : Value} {bs cs : List Int}
theorem below (h : BufL w0 w M m most mp B v bs) (hb : Below w.heap.size w w') : BufL w0 w' M m most mp B v bs := by
  obtain ⟨R, h1, h2⟩ := h.ex
  exact ⟨⟨_, h1.below hb, fun k hk => .inl (h2 k hk)⟩, h.own.below hb, h.hB.1, Nat.le_trans h.hB.2 hb.size⟩
theorem alloc (h : BufL w0 w M m most mp B v bs) (o : Obj) : BufL w0 (w.alloc o) M m most mp B v bs := h.below ((Below.refl _ _).alloc (Nat.le_refl _) o)
theorem app (h : BufL w0 w M m most mp B v bs) (ho : OwnBL w' B v' (bs ++ cs)) (hg : w.grownBy w' v.ownBlock) (hat : v'.ownBlock = v.ownBlock ∨ v'.ownBlock = some w.heap.size) : BufL w0 w' M m most mp B v' (bs ++ cs) := by
  obtain ⟨R, h1, h2⟩ := h.ex
  refine ⟨⟨_, h1.grown hg (fun k hk => ⟨h2 k hk, by have := (h.own.lt k hk).1; have := h.hB.1; omega⟩), fun k hk => ?_⟩, ho, h.hB.1, Nat.le_trans h.hB.2 hg.size⟩
  rcases hat with e | e
  · exact .inl (h2 k (by rw [← e]; exact hk))
  · rw [e] at hk
    injection hk with hk
    subst hk
    exact .inr ⟨Nat.le_refl _, (ho.lt _ e).2⟩
theorem start {R : Nat → Prop} (h : Mem0 R w0 w M m most mp) : BufL w0 w M m most mp w.heap.size (.slice none 0 0) [] := ⟨⟨R, h, fun k hk => nomatch hk⟩, OwnBL.nil w _, h.kept.size, Nat.le_refl _⟩
/-- A row that was written out. -/
theorem made {R : Nat → Prop} (h : Mem0 R w0 w M m most mp) (o : Obj) (g n cap : Nat) (hg : g = w.heap.size) (ho : OwnBL (w.alloc o) w.heap.size (.slice (some ⟨g, 0, none⟩) n cap) bs) : BufL w0 (w.alloc o) M m most mp w.heap.size (.slice (some ⟨g, 0, none⟩) n cap) bs := by
  refine ⟨⟨_, h.below ((Below.refl _ _).alloc (Nat.le_refl _) o), fun k hk => ?_⟩, ho, h.kept.size, by simp⟩
  obtain ⟨_, h2⟩ := ho.lt k hk
  have e : g = k := by injection hk
  exact .inr ⟨by omega, h2⟩
theorem shape (h : BufL w0 w M m most mp B v bs) : ∃ A cap, v = .slice A bs.length cap ∧ bs.length ≤ cap ∧ cap ≤ 9223372036854775807 := by
  rcases h.own.2 with ⟨h1, h2⟩ | ⟨g, cap, _, h1, _⟩
  · exact ⟨none, 0, by rw [h1, h2], by omega, by omega⟩
  · have ho := h.own
    rw [h1] at ho
    have h2 := ho.slice
    exact ⟨_, cap, h1, h2.2.1, by have := h2.2.2.1; unfold maxLen at this; omega⟩
/-- What it gives to a Poke. -/
theorem src {A : Option Addr} {n cap : Nat} (h : BufL w0 w M m most mp B (.slice A n cap) bs) : ∃ R, Mem0 R w0 w M m most mp ∧ SrcR R w A n (litF bs) := by
  obtain ⟨R, h1, h2⟩ := h.ex
  refine ⟨R, h1, ?_⟩
  obtain ⟨_, _, _, h3, h4⟩ := h.own.slice
  rcases h4 with e | ⟨g, e, _⟩
  · exact .inl e
  · subst e
    rcases h3 with e | ⟨g', o', e, _, hc⟩
    · exact .inl e
    · injection e with e
      injection e with e1 e2
      subst e1 e2
      exact .inr ⟨g, 0, rfl, h2 g rfl, fun j hj => by rw [hc j hj]⟩
end BufL
theorem mem0_new (w : World) (n : Int) (h0 : 0 ≤ n) (h1 : n ≤ 1024) :
    Calls Try.prog 23 #[.int .i64 n] w fun e w' => ∃ M, e = .returned (.pointer (some ⟨M, 0, none⟩)) ∧ Mem0 (· < w.heap.size) w w' M 0 n noM := by
  refine (newMem_any (· < w.heap.size) w n (fun _ h => h) h0 h1).mono ?_
  rintro e w1 ⟨M, rfl, hm1, hk1⟩
  exact ⟨M, rfl, hm1, MpOk.none, fun _ h => h, hk1⟩
theorem mem0_map {R : Nat → Prop} {w0 w : World} {M m : Nat} {most : Int} {mp : Int → Option Pg} (h : Mem0 R w0 w M m most mp) (a p : Int) (n : Nat) (h0 : 0 ≤ a) (hr : RowOk a n) (p0 : 0 ≤ p) (p1 : p ≤ 15) (hfree : ∀ i : Nat, i < n → mp (a + i * 4096) = none) (hfit : (m : Int) + n ≤ most) (hk : a + n * 4096 ≤ 140737488355328) :
    Calls Try.prog 24 #[.pointer (some ⟨M, 0, none⟩), .int .u64 a, .int .i64 n, .int .i64 p] w fun e w' => e = .returned (.int .i64 0) ∧ Mem0 R w0 w' M (m + n) most (setP mp a p n) := by
  refine (map_core R w M m most mp a p n h0 hr p0 p1 hfree hfit h.mem).mono ?_
  rintro e w2 ⟨rfl, hm2, hk2⟩
  exact ⟨rfl, h.turned hm2 hk2 (h.ok.set h0 p0 p1 n hk)⟩
theorem mem0_poke {R : Nat → Prop} {w0 w : World} {M m : Nat} {most : Int} {mp : Int → Option Pg} (h : Mem0 R w0 w M m most mp) (a : Int) (A : Option Addr) (n cap : Nat) (f : Nat → Int) (h0 : 0 ≤ a) (h1 : a + n ≤ 9223372036854775807) (hn : n ≤ 65536) (hcap : n ≤ cap) (hcap2 : cap ≤ 9223372036854775807) (hin : InM mp a n) (hsrc : SrcR R w A n f) (hf : ∀ j, 0 ≤ f j ∧ f j ≤ 255) :
    Calls Try.prog 26 #[.pointer (some ⟨M, 0, none⟩), .int .u64 a, .slice A n cap] w fun e w' => e = .returned (.bool true) ∧ Mem0 R w0 w' M m most (putP mp a n f) ∧ Kept R w w' := by
  refine (poke_yes R w M m most mp a A n cap f h0 h1 hn hcap hcap2 hin hsrc h.mem).mono ?_
  rintro e w2 ⟨rfl, hm2, hk2⟩
  exact ⟨rfl, h.turned hm2 hk2 (h.ok.put a n hf), hk2⟩
theorem mem0_cpu {R : Nat → Prop} {w0 w : World} {M m : Nat} {most : Int} {mp : Int → Option Pg} (h : Mem0 R w0 w M m most mp) :
    Calls Try.prog 27 #[.pointer (some ⟨M, 0, none⟩)] w fun e w' => ∃ C, w.heap.size ≤ C ∧ Below w.heap.size w w' ∧ e = .returned (.pointer (some ⟨C, 0, none⟩)) ∧ Box (fun k => R k ∨ (w.heap.size ≤ k ∧ k < w'.heap.size)) w0 w' C M m most mp st0 0 0 := by
  refine (makeCpu_any w M).mono ?_
  rintro e w5 ⟨rfl, hb5, hc5⟩
  exact ⟨_, Nat.le_refl _, hb5, rfl, Box.start h.mem h.ok h.r0 h.kept hb5 hc5⟩
theorem box_jump {R : Nat → Prop} {w0 w : World} {C M m : Nat} {most : Int} {mp : Int → Option Pg} {s : StV} {fk fa : Int} (h : Box R w0 w C M m most mp s fk fa) (v : Int) (v0 : 0 ≤ v) (v1 : v < 18446744073709551616) :
    Calls Try.prog 28 #[.pointer (some ⟨C, 0, none⟩), .int .u64 v] w fun e w' => e = .returned (.tuple #[]) ∧ Box R w0 w' C M m most mp (s.setIp v) fk fa ∧ Kept (fun k => k ≠ C) w w' := by
  refine (jump_any w C M s fk fa v h.cpu).mono ?_
  rintro e w6 ⟨rfl, rfl⟩
  exact ⟨rfl, h.setIp v0 v1, (Kept.refl _ w).setCell (fun e => e rfl) _⟩
theorem box_put {R : Nat → Prop} {w0 w : World} {C M m : Nat} {most : Int} {mp : Int → Option Pg} {s : StV} {fk fa : Int} (h : Box R w0 w C M m most mp s fk fa) (i : Nat) (hi : i < 16) (v : Int) (v0 : 0 ≤ v) (v1 : v < 18446744073709551616) :
    Calls Try.prog 16 #[.pointer (some ⟨C, 0, none⟩), .int .i64 i, .int .u64 v] w fun e w' => e = .returned (.tuple #[]) ∧ Box R w0 w' C M m most mp (s.setR i v) fk fa ∧ Kept (fun k => k ≠ C) w w' := by
  refine (putReg_any w C M s fk fa i v hi h.cpu).mono ?_
  rintro e w6 ⟨rfl, rfl⟩
  exact ⟨rfl, h.setR hi v0 v1, (Kept.refl _ w).setCell (fun e => e rfl) _⟩
theorem stepM_flt {mp mp' : Int → Option Pg} {s : StV} {fk fa : Int} {al : AlV} {x : InsV} {n e : Nat} {k a : Int} (hf : fetchM mp s.ip 12 [] = ⟨true, mp', x, n, e, k, a⟩) : stepM mp s fk fa al = ⟨0, 17, mp', s, k, a⟩ := by
  unfold stepM
  rw [hf, if_pos rfl]
theorem stepM_do {mp mp' : Int → Option Pg} {s s' : StV} {fk fa : Int} {al : AlV} {x : InsV} {n : Nat} (hf : fetchM mp s.ip 12 [] = ⟨false, mp, x, n, 0, 0, 0⟩) (hd : doM x (nextS s n) mp al = ⟨true, mp', s', 0, 0⟩) (ho : x.op ≠ 23) : stepM mp s fk fa al = ⟨0, 0, mp', s', fk, fa⟩ := by
  unfold stepM
  rw [hf]
  simp only [Bool.false_eq_true, if_false, ne_eq, not_true_eq_false]
  rw [hd]
  simp only [if_true]
  rw [if_neg ho]
/-- A step, whatever comes of it; and what it leaves. -/
theorem stepBoxK {R : Nat → Prop} {w0 w : World} {C M m : Nat} {most : Int} {mp : Int → Option Pg} {s : StV} {fk fa : Int} (h : Box R w0 w C M m most mp s fk fa) (al : AlV)
    (hal : (fetchM mp s.ip 12 []).flt = false → (fetchM mp s.ip 12 []).e = 0 → AluD (fetchM mp s.ip 12 []).x (nextS s (fetchM mp s.ip 12 []).n) al) (r : StepR) (hr : stepM mp s fk fa al = r) (ho : MpOk r.mp) (hs : StOk r.s) :
    Calls Try.prog 17 #[.pointer (some ⟨C, 0, none⟩)] w fun e w' => e = .returned (.tuple #[.int .i64 r.n, .int .i64 r.e]) ∧ Box R w0 w' C M m most r.mp r.s r.k r.a ∧ Kept (fun k => R k ∧ k ≠ C) w w' :=
  (step_any R w C M m most mp s fk fa al h.ok h.sok h.mem h.cpu h.rC hal r hr).mono fun e w' hq => ⟨hq.e, h.stepped hq ho hs, hq.kept⟩
/-- A step that falls while it is fetched. -/
theorem box_flt {R : Nat → Prop} {w0 w : World} {C M m : Nat} {most : Int} {mp mp' : Int → Option Pg} {s : StV} {fk fa : Int} (h : Box R w0 w C M m most mp s fk fa) {x : InsV} {n e : Nat} {k a : Int} (hf : fetchM mp s.ip 12 [] = ⟨true, mp', x, n, e, k, a⟩) (ho : MpOk mp') :
    Calls Try.prog 17 #[.pointer (some ⟨C, 0, none⟩)] w fun e w' => e = .returned (.tuple #[.int .i64 0, .int .i64 17]) ∧ Box R w0 w' C M m most mp' s k a ∧ Kept (fun k => R k ∧ k ≠ C) w w' :=
  stepBoxK h al0 (fun h _ => by rw [hf] at h; cases h) _ (stepM_flt hf) ho h.sok
/-- A step that is done. -/
theorem box_do {R : Nat → Prop} {w0 w : World} {C M m : Nat} {most : Int} {mp mp' : Int → Option Pg} {s s' : StV} {fk fa : Int} (h : Box R w0 w C M m most mp s fk fa) (al : AlV) {x : InsV} {n : Nat} (hf : fetchM mp s.ip 12 [] = ⟨false, mp, x, n, 0, 0, 0⟩) (hd : doM x (nextS s n) mp al = ⟨true, mp', s', 0, 0⟩) (h23 : x.op ≠ 23) (hal : AluD x (nextS s n) al) (ho : MpOk mp') (hs : StOk s') :
    Calls Try.prog 17 #[.pointer (some ⟨C, 0, none⟩)] w fun e w' => e = .returned (.tuple #[.int .i64 0, .int .i64 0]) ∧ Box R w0 w' C M m most mp' s' fk fa ∧ Kept (fun k => R k ∧ k ≠ C) w w' :=
  stepBoxK h al (fun _ _ => by rw [hf]; exact hal) _ (stepM_do hf hd h23) ho hs
theorem Box.more {R : Nat → Prop} {w0 w w' : World} {C M m : Nat} {most : Int} {mp : Int → Option Pg} {s : StV} {fk fa : Int} (h : Box R w0 w C M m most mp s fk fa) (hb : Below w.heap.size w w') : Box (fun k => R k ∨ (w.heap.size ≤ k ∧ k < w'.heap.size)) w0 w' C M m most mp s fk fa :=
  ⟨h.mem.more hb, Own.below h.cpu hb (h.lt C h.rC), .inl h.rC, h.ok, h.sok, fun k hk => .inl (h.r0 k hk), h.kept.trans (Kept.of_below hb (fun k hk => h.lt k (h.r0 k hk))), h.cC⟩
theorem Box.alloc {R : Nat → Prop} {w0 w : World} {C M m : Nat} {most : Int} {mp : Int → Option Pg} {s : StV} {fk fa : Int} (h : Box R w0 w C M m most mp s fk fa) (o : Obj) : Box (fun k => R k ∨ (w.heap.size ≤ k ∧ k < (w.alloc o).heap.size)) w0 (w.alloc o) C M m most mp s fk fa := h.more ((Below.refl _ _).alloc (Nat.le_refl _) o)
theorem box_ip {R : Nat → Prop} {w0 w : World} {C M m : Nat} {most : Int} {mp : Int → Option Pg} {s : StV} {fk fa : Int} (h : Box R w0 w C M m most mp s fk fa) (v : Int) (hv : s.ip = v) :
    Calls Try.prog 20 #[.pointer (some ⟨C, 0, none⟩)] w fun e w' => e = .returned (.int .u64 v) ∧ w' = w := by
  rw [← hv]
  exact getIp_any w C M s fk fa h.cpu
theorem box_reg {R : Nat → Prop} {w0 w : World} {C M m : Nat} {most : Int} {mp : Int → Option Pg} {s : StV} {fk fa : Int} (h : Box R w0 w C M m most mp s fk fa) (i : Nat) (hi : i < 16) (v : Int) (hv : s.r i = v) :
    Calls Try.prog 18 #[.pointer (some ⟨C, 0, none⟩), .int .i64 i] w fun e w' => e = .returned (.int .u64 v) ∧ w' = w := by
  rw [← hv]
  exact getReg_any w C M s fk fa i hi h.cpu
theorem aluD0 {x : InsV} {s : StV} (h : x.op ≠ 7 ∧ x.op ≠ 14 ∧ x.op ≠ 15 ∧ x.op ≠ 16) : AluD x s al0 := aluD_none (by decide) (by decide) h
theorem StOk.next {s : StV} (h : StOk s) (n : Nat) : StOk (nextS s n) := h.setIp (by omega) (by omega)
theorem prot_box {R : Nat → Prop} {w0 w : World} {C M m : Nat} {most : Int} {mp : Int → Option Pg} {s : StV} {fk fa : Int} (h : Box R w0 w C M m most mp s fk fa) (a : Int) (g : Pg) (h0 : 0 ≤ a) (h1 : a < 18446744073709551616) (hg : mp (a - a % 4096) = some g) :
    Calls Try.prog 30 #[.pointer (some ⟨M, 0, none⟩), .int .u64 a] w fun e w' => e = .returned (.tuple #[.int .i64 g.prot, .bool true]) ∧ Box R w0 w' C M m most mp s fk fa ∧ Below w.heap.size w w' := by
  refine (prot_yes R w M m most mp a g h0 h1 h.mem hg).mono ?_
  rintro e w' ⟨rfl, n, rfl⟩
  have hb : Below w.heap.size w (w.drewN n) := ⟨rfl, rfl, rfl, Nat.le_refl _, fun _ _ => rfl⟩
  exact ⟨rfl, h.below hb, hb⟩
end Go.Proofs.Ythbgmlmcjnlopaa
