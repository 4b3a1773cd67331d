/- package cpu: whatever is reckoned, something comes of it. · law 16: CpuKeeps: a step where nothing may be written. -/
import Derived.Test.YthbgmlmcjnlopaaMchS
import Derived.Test.YthbgmlmcjnlopaaMgD
namespace Go.Proofs.Ythbgmlmcjnlopaa
open Go.ChangeShapes Go.WideShapes Go.ChangeAt Go.RowKit
set_option linter.unusedVariables false
set_option linter.unusedSimpArgs false

set_option maxHeartbeats 1000000 in
theorem aluR_ex (op a b : Int) (z s c o : Bool) (ha : Word a) (hb : Word b) : ∃ (v : Int) (z1 s1 c1 o1 : Bool), Word v ∧ AluR op a b z s c o v z1 s1 c1 o1 := by
  have a0 := ha.low
  have a1 := ha.high
  have b0 := hb.low
  have b1 := hb.high
  have w1 : Word 1 := ⟨by omega, by omega⟩
  obtain ⟨s0, hs0⟩ : ∃ v, (a + b) % 18446744073709551616 = v := ⟨_, rfl⟩
  obtain ⟨i0, hi0⟩ : ∃ v, (a + 1) % 18446744073709551616 = v := ⟨_, rfl⟩
  obtain ⟨d0, hd0⟩ : ∃ v, IntKind.u64.wrap (a - b) = v := ⟨_, rfl⟩
  obtain ⟨e0, he0⟩ : ∃ v, IntKind.u64.wrap (a - 1) = v := ⟨_, rfl⟩
  have ws : Word s0 := ⟨by omega, by omega⟩
  have wi : Word i0 := ⟨by omega, by omega⟩
  have wd : Word d0 := by rw [← hd0]; exact word_wrap _
  have we : Word e0 := by rw [← he0]; exact word_wrap _
  have wa := word_and ha hb
  have wo := word_or ha hb
  have wx := word_xor ha hb
  by_cases h0 : op = 0
  · subst h0
    exact ⟨s0, _, _, _, _, ws, fun w => do_add a b s0 _ _ _ _ _ _ _ _ w ha hb ws hs0 rfl⟩
  by_cases h1 : op = 1
  · subst h1
    exact ⟨d0, _, _, _, _, wd, fun w => do_sub a b d0 _ _ _ _ _ _ _ _ w ha hb wd hd0 rfl⟩
  by_cases h2 : op = 2
  · subst h2
    exact ⟨_, _, _, _, _, wa, fun w => do_and a b _ _ _ _ _ _ _ w ha hb wa (Lib.hid rfl) rfl rfl⟩
  by_cases h3 : op = 3
  · subst h3
    exact ⟨_, _, _, _, _, wo, fun w => do_or a b _ _ _ _ _ _ _ w ha hb wo (Lib.hid rfl) rfl rfl⟩
  by_cases h4 : op = 4
  · subst h4
    exact ⟨_, _, _, _, _, wx, fun w => do_xor a b _ _ _ _ _ _ _ w ha hb wx (Lib.hid rfl) rfl rfl⟩
  by_cases h5 : op = 5
  · subst h5
    exact ⟨i0, _, _, _, _, wi, fun w => do_inc a b i0 _ _ _ _ _ _ _ _ w ha w1 wi hi0 rfl⟩
  by_cases h6 : op = 6
  · subst h6
    exact ⟨e0, _, _, _, _, we, fun w => do_dec a b e0 _ _ _ _ _ _ _ _ w ha w1 we he0 rfl⟩
  by_cases h7 : op = 7
  · subst h7
    exact ⟨a, _, _, _, _, ha, fun w => do_cmp a b d0 _ _ _ _ _ _ _ _ w ha hb wd hd0 rfl⟩
  by_cases h8 : op = 8
  · subst h8
    exact ⟨a, _, _, _, _, ha, fun w => do_test a b _ _ _ _ _ _ _ w ha hb wa (Lib.hid rfl) rfl rfl⟩
  have f := fun (k : Int) (h : ¬ op = k) => beq_eq_false_iff_ne.2 h
  obtain ⟨n, hn⟩ : ∃ n : Int, b % 64 = n := ⟨_, rfl⟩
  by_cases hz : n = 0
  · subst hz
    by_cases h9 : op = 9
    · subst h9
      exact ⟨a, z, s, c, o, ha, fun w => do_shl a b 0 a _ _ _ _ _ _ _ _ w hb (by omega) (by omega) (Lib.hid hn) (Lib.hid fun w => shift_z 9 a _ _ _ _ w)⟩
    by_cases h10 : op = 10
    · subst h10
      exact ⟨a, z, s, c, o, ha, fun w => do_shr a b 0 a _ _ _ _ _ _ _ _ w hb (by omega) (by omega) (Lib.hid hn) (Lib.hid fun w => shift_z 10 a _ _ _ _ w)⟩
    exact ⟨a, z, s, c, o, ha, fun w => do_none op a b z s c o w (f _ h0) (f _ h1) (f _ h2) (f _ h3) (f _ h4) (f _ h5) (f _ h6) (f _ h7) (f _ h8) (f _ h9) (f _ h10)⟩
  · have hnz : (n == 0) = false := beq_eq_false_iff_ne.2 hz
    by_cases h9 : op = 9
    · subst h9
      have wv := word_wrap (a * 2 ^ n.toNat)
      have wq := word_div ha (64 - n).toNat
      exact ⟨_, _, _, _, _, wv, fun w => do_shl a b n _ _ _ _ _ _ _ _ _ w hb (by omega) (by omega) (Lib.hid hn) (Lib.hid fun w => shift_l a n _ _ _ _ _ _ w ha wv wq (by omega) (by omega) hnz (Lib.hid rfl) (Lib.hid rfl))⟩
    by_cases h10 : op = 10
    · subst h10
      have wv := word_div ha n.toNat
      have wq := word_div ha (n.toNat - 1)
      exact ⟨_, _, _, _, _, wv, fun w => do_shr a b n _ _ _ _ _ _ _ _ _ w hb (by omega) (by omega) (Lib.hid hn) (Lib.hid fun w => shift_r a n _ _ _ _ _ _ w ha wv wq (by omega) (by omega) hnz (Lib.hid rfl) (Lib.hid rfl))⟩
    exact ⟨a, z, s, c, o, ha, fun w => do_none op a b z s c o w (f _ h0) (f _ h1) (f _ h2) (f _ h3) (f _ h4) (f _ h5) (f _ h6) (f _ h7) (f _ h8) (f _ h9) (f _ h10)⟩
theorem aluD_ex {s : StV} (h : StOk s) {x : InsV} (ha : x.a < 16) (hb : x.b < 16) (hi : x.imm < 18446744073709551616) : ∃ al, AluD x s al := by
  have wa : Word (s.r x.a) := ⟨(h.r _ ha).1, (h.r _ ha).2⟩
  have wb : Word (s.r x.b) := ⟨(h.r _ hb).1, (h.r _ hb).2⟩
  have wi : Word (x.imm : Int) := ⟨by omega, by omega⟩
  by_cases h7 : x.op = 7
  · obtain ⟨v, z1, s1, c1, o1, hw, hr⟩ := aluR_ex x.alu (s.r x.b) (s.r x.a) s.z s.s s.c s.o wb wa
    exact ⟨⟨v, z1, s1, c1, o1⟩, hw.low, hw.high, fun _ => hr, fun e => by omega⟩
  · obtain ⟨v, z1, s1, c1, o1, hw, hr⟩ := aluR_ex x.alu (s.r x.b) x.imm s.z s.s s.c s.o wb wi
    exact ⟨⟨v, z1, s1, c1, o1⟩, hw.low, hw.high, fun e => absurd e h7, fun _ => hr⟩
end Go.Proofs.Ythbgmlmcjnlopaa
namespace Go.Proofs.Ythbgmlmcjnlopaa
open Go.ChangeShapes Go.WideShapes Go.ChangeAt Go.RowKit
set_option linter.unusedVariables false
set_option linter.unusedSimpArgs false
set_option maxRecDepth 100000

/-- A memory that has no guards, and of which nothing may be written. -/
structure KpM (mp : Int → Option Pg) : Prop where
  ok : MpOk mp
  pr : ∀ x g, mp x = some g → g.prot = 4 ∨ g.prot = 1
theorem KpM.put {mp : Int → Option Pg} (h : KpM mp) (a : Int) (n : Nat) {f : Nat → Int} (hf : ∀ j, 0 ≤ f j ∧ f j ≤ 255) : KpM (putP mp a n f) := by
  refine ⟨h.ok.put a n hf, fun x g hg => ?_⟩
  obtain ⟨g', h1, h2, _⟩ := putP_some hg
  rw [h2]; exact h.pr x g' h1
section
variable {mp : Int → Option Pg}
theorem kp_wr (h : KpM mp) {a n : Int} {k : Nat} (hk : 0 < k) (hn : 0 < n) : (askS mp 2 3 k a n).2.2 = none ∧ ((askS mp 2 3 k a n).1 = 1 ∨ (askS mp 2 3 k a n).1 = 3) := by
  obtain ⟨k, rfl⟩ : ∃ j, k = j + 1 := ⟨k - 1, by omega⟩
  unfold askS
  rw [if_neg (by omega)]
  cases hm : mp (a - a % 4096) with
  | none => exact ⟨rfl, .inl rfl⟩
  | some g =>
    simp only
    rcases h.pr _ g hm with e | e <;> rw [e, if_neg (by decide), if_pos (by decide)] <;> exact ⟨rfl, .inr rfl⟩
theorem kp_rd (h : KpM mp) : ∀ (k : Nat) (a n : Int), (askS mp 1 2 k a n).2.2 = none ∧ ((askS mp 1 2 k a n).1 = 0 ∨ (askS mp 1 2 k a n).1 = 1 ∨ (askS mp 1 2 k a n).1 = 2)
  | 0, a, n => ⟨rfl, .inl rfl⟩
  | k + 1, a, n => by
    unfold askS
    by_cases hn : n ≤ 0
    · rw [if_pos hn]; exact ⟨rfl, .inl rfl⟩
    · rw [if_neg hn]
      cases hm : mp (a - a % 4096) with
      | none => exact ⟨rfl, .inr (.inl rfl)⟩
      | some g =>
        simp only
        rcases h.pr _ g hm with e | e <;> rw [e, if_neg (by decide)]
        · rw [if_pos (by decide)]; exact ⟨rfl, .inr (.inr rfl)⟩
        · rw [if_neg (by decide)]; exact kp_rd h k _ _
/-- What an instruction does there. -/
structure KpO (mp : Int → Option Pg) (s : StV) (o : OutM) : Prop where
  mp : o.mp = mp
  out : (o.ok = true ∧ StOk o.s) ∨ (o.ok = false ∧ (o.k = 1 ∨ o.k = 2 ∨ o.k = 3))
theorem kp_rdM (h : KpM mp) (a : Int) (s : StV) (f : Int → StV) (hf : ∀ v, 0 ≤ v → v < 18446744073709551616 → StOk (f v)) : KpO mp s (rdM mp a s f) := by
  have h1 := kp_rd h 8 a 8
  unfold rdM
  by_cases c : (askS mp 1 2 8 a 8).1 = 0
  · rw [if_pos c]
    exact ⟨rfl, .inl ⟨rfl, hf _ (numM_bd h.ok a).1 (numM_bd h.ok a).2⟩⟩
  · rw [if_neg c]
    refine ⟨by show askM mp _ = mp; unfold askM; rw [h1.1], .inr ⟨rfl, ?_⟩⟩
    rcases h1.2 with e | e | e
    · exact absurd e c
    · exact .inl e
    · exact .inr (.inl e)
theorem kp_wrM (h : KpM mp) (a v : Int) (s s' : StV) : KpO mp s (wrM mp a v s s') := by
  have h1 := kp_wr h (a := a) (n := 8) (k := 8) (by omega) (by omega)
  unfold wrM
  rw [if_neg (by rcases h1.2 with e | e <;> rw [e] <;> decide)]
  refine ⟨by show askM mp _ = mp; unfold askM; rw [h1.1], .inr ⟨rfl, ?_⟩⟩
  rcases h1.2 with e | e
  · exact .inl e
  · exact .inr (.inr e)
theorem kp_okM {s : StV} (h : StOk s) (s0 : StV) : KpO mp s0 (okM mp s) := ⟨rfl, .inl ⟨rfl, h⟩⟩
theorem kp_do (h : KpM mp) {x : InsV} {s : StV} {al : AlV} (hs : StOk s) (ha : x.a < 16) (hi : x.imm < 18446744073709551616) (l0 : 0 ≤ al.v) (l1 : al.v < 18446744073709551616) : KpO mp s (doM x s mp al) := by
  have hr4 := addM_bd (s.r 4)
  have hne := nearM_bd s x
  unfold doM
  by_cases c : x.op = 2
  · rw [if_pos c]; exact kp_rdM h _ _ _ (fun v v0 v1 => (hs.setR hr4.1 hr4.2).setIp v0 v1)
  rw [if_neg c]; clear c
  by_cases c : x.op = 3
  · rw [if_pos c]; exact kp_wrM h _ _ _ _
  rw [if_neg c]; clear c
  by_cases c : x.op = 4
  · rw [if_pos c]; exact kp_rdM h _ _ _ (fun v v0 v1 => (hs.setR hr4.1 hr4.2).setR v0 v1)
  rw [if_neg c]; clear c
  by_cases c : x.op = 5 ∨ x.op = 6
  · rw [if_pos c]; exact kp_okM (hs.setR (by omega) (by omega)) _
  rw [if_neg c]; clear c
  by_cases c : x.op = 7 ∨ x.op = 14 ∨ x.op = 15 ∨ x.op = 16
  · rw [if_pos c]; exact kp_okM ((hs.setR l0 l1).setF _ _ _ _) _
  rw [if_neg c]; clear c
  by_cases c : x.op = 8
  · rw [if_pos c]; exact kp_okM (hs.setR (hs.r _ ha).1 (hs.r _ ha).2) _
  rw [if_neg c]; clear c
  by_cases c : x.op = 9 ∨ x.op = 11
  · rw [if_pos c]; exact kp_rdM h _ _ _ (fun v v0 v1 => hs.setR v0 v1)
  rw [if_neg c]; clear c
  by_cases c : x.op = 10 ∨ x.op = 12
  · rw [if_pos c]; exact kp_wrM h _ _ _ _
  rw [if_neg c]; clear c
  by_cases c : x.op = 13
  · rw [if_pos c]; exact kp_okM (hs.setR hne.1 hne.2) _
  rw [if_neg c]; clear c
  by_cases c : x.op = 17
  · rw [if_pos c]; exact kp_wrM h _ _ _ _
  rw [if_neg c]; clear c
  by_cases c : x.op = 18 ∨ x.op = 19
  · rw [if_pos c]; exact kp_okM (hs.setIp hne.1 hne.2) _
  rw [if_neg c]; clear c
  by_cases c : x.op = 20
  · rw [if_pos c]; refine kp_okM ?_ _; split; exact hs.setIp hne.1 hne.2; exact hs
  rw [if_neg c]; clear c
  by_cases c : x.op = 21
  · rw [if_pos c]
    split
    · exact kp_wrM h _ _ _ _
    · exact kp_rdM h _ _ _ (fun v v0 v1 => hs)
  rw [if_neg c]; clear c
  by_cases c : x.op = 22
  · rw [if_pos c]; exact kp_rdM h _ _ _ (fun v v0 v1 => hs.setIp v0 v1)
  rw [if_neg c]; clear c
  exact kp_okM hs _
/-- What a step tells there. -/
structure KpS (s : StV) (e : Int) (s' : StV) (k : Int) : Prop where
  out : e = 0 ∨ (e = 17 ∧ s' = s ∧ (k = 1 ∨ k = 2 ∨ k = 3))
theorem kp_box {R : Nat → Prop} {w0 w : World} {C M m : Nat} {most : Int} {s : StV} {fk fa : Int} (h : Box R w0 w C M m most mp s fk fa) (hM : KpM mp) {x : InsV} {n : Nat} (hf : fetchM mp s.ip 12 [] = ⟨false, mp, x, n, 0, 0, 0⟩) (ha : x.a < 16) (hb : x.b < 16) (hi : x.imm < 18446744073709551616) :
    ∃ n e s' k a, KpS s e s' k ∧ Calls Try.prog 17 #[.pointer (some ⟨C, 0, none⟩)] w fun en w' => en = .returned (.tuple #[.int .i64 n, .int .i64 e]) ∧ Box R w0 w' C M m most mp s' k a ∧ Kept (fun k => R k ∧ k ≠ C) w w' := by
  have hn := h.sok.next n
  obtain ⟨al, hal⟩ := aluD_ex hn ha hb hi
  have hd := kp_do hM hn ha hi hal.v0 hal.v1
  obtain ⟨o, ho⟩ : ∃ o, doM x (nextS s n) mp al = o := ⟨_, rfl⟩
  obtain ⟨ok, mp', s', k, a⟩ := o
  rw [ho] at hd
  have hmp : mp' = mp := hd.mp
  subst hmp
  rcases hd.out with ⟨e1, e2⟩ | ⟨e1, e2⟩
  · have e1 : ok = true := e1
    subst e1
    refine ⟨if x.op = 23 then wrap64 (wrap64 x.imm + 256) else 0, 0, s', fk, fa, ⟨.inl rfl⟩, stepBoxK h al (fun _ _ => by rw [hf]; exact hal) ⟨if x.op = 23 then wrap64 (wrap64 x.imm + 256) else 0, 0, mp', s', fk, fa⟩ ?_ hM.ok e2⟩
    unfold stepM
    rw [hf]
    simp only [Bool.false_eq_true, if_false, ne_eq, not_true_eq_false]
    rw [ho]
    simp only [if_true]
  · have e1 : ok = false := e1
    subst e1
    refine ⟨0, 17, s, k, a, ⟨.inr ⟨rfl, rfl, e2⟩⟩, stepBoxK h al (fun _ _ => by rw [hf]; exact hal) ⟨0, 17, mp', s, k, a⟩ ?_ hM.ok h.sok⟩
    unfold stepM
    rw [hf]
    simp only [Bool.false_eq_true, if_false, ne_eq, not_true_eq_false]
    rw [ho]
    simp only [Bool.false_eq_true, if_false]
end
end Go.Proofs.Ythbgmlmcjnlopaa
