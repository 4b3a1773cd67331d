/- package cpu: a step. -/
import Derived.Test.YthbgmlmcjnlopaaMchM
namespace Go.Proofs.Ythbgmlmcjnlopaa
open Go.ChangeShapes Go.WideShapes Go.ChangeAt Go.RowKit
set_option linter.unusedVariables false
set_option linter.unusedSimpArgs false
set_option maxRecDepth 100000

/-- The cells of a state. -/
def stL (s : StV) : List Value := (List.range 21).map (stF s)
theorem stL_get (s : StV) (j : Nat) (hj : j < 21) : (stL s)[j]? = some (stF s j) := by simp [stL, hj]
theorem stL_one (s : StV) : (stL s).toArray.all (·.oneCell') = true := by
  refine all_oneCell_toArray fun v hv => ?_
  obtain ⟨j, hj, rfl⟩ := List.mem_map.mp hv
  unfold stF
  split
  · rfl
  · split
    · rfl
    · split
      · rfl
      · split
        · rfl
        · split <;> rfl
theorem stL_size (s : StV) : (Try.prog.info? 79).map (·.size) = some (stL s).toArray.size := by kernel_rfl
theorem stL_len (s : StV) : (Try.prog.info? 79).map (·.size) = some (stL s).length := by kernel_rfl
theorem StAt.range {w : World} {B : Nat} {s : StV} (h : StAt w B s) : w.rangeAt B 0 (stL s) := fun j v hv => by
  have hj : j < 21 := by
    have := (List.getElem?_eq_some_iff.1 hv).1
    simpa [stL] using this
  rw [stL_get s j hj] at hv
  injection hv with hv
  rw [Nat.zero_add, ← hv]
  exact Own.cell h hj
theorem cpu_range {w : World} {C M : Nat} {s : StV} {fk fa : Int} (h : Own w C 24 (cpuF M s fk fa)) : w.rangeAt C 1 (stL s) := fun j v hv => by
  have hj : j < 21 := by
    have := (List.getElem?_eq_some_iff.1 hv).1
    simpa [stL] using this
  rw [stL_get s j hj] at hv
  injection hv with hv
  rw [h.cell (i := 1 + j) (by omega), ← hv]
  unfold cpuF
  rw [if_neg (by omega), if_pos (by omega), show 1 + j - 1 = j by omega]
theorem cpu_there {w : World} {C M : Nat} {s : StV} {fk fa : Int} (h : Own w C 24 (cpuF M s fk fa)) (s' : StV) : w.there C 1 (stL s').toArray.size := fun j hj => by
  have hj' : j < 21 := by simpa [stL] using hj
  exact ⟨by rw [h.cell (i := 1 + j) (by omega)]; rfl, h.frozen (by omega)⟩
theorem size_setCells' (b : Nat) : ∀ (vs : List Value) (o : Nat) (w : World), (w.setCells b o vs).heap.size = w.heap.size
  | [], _, _ => rfl
  | v :: r, o, w => by rw [World.setCells, size_setCells' b r (o + 1)]; simp [World.setCell]
theorem io_setCells' (b : Nat) : ∀ (vs : List Value) (o : Nat) (w : World), (w.setCells b o vs).os = w.os ∧ (w.setCells b o vs).tape = w.tape ∧ (w.setCells b o vs).output = w.output
  | [], _, _ => ⟨rfl, rfl, rfl⟩
  | v :: r, o, w => by rw [World.setCells]; exact io_setCells' b r (o + 1) _
/-- The machine's state is another one. -/
theorem cpu_now {w : World} {C M : Nat} {s : StV} {fk fa : Int} (h : Own w C 24 (cpuF M s fk fa)) (s' : StV) : Own (w.setCells C 1 (stL s').toArray.toList) C 24 (cpuF M s' fk fa) := by
  refine ⟨by rw [size_setCells']; exact h.1, fun j hj => ⟨?_, by rw [World.frozen?_setCells]; exact h.frozen hj⟩⟩
  have hlen : (stL s').toArray.toList.length = 21 := by simp [stL]
  by_cases c : 1 ≤ j ∧ j < 22
  · have hc := World.cell?_setCells_in C (stL s').toArray.toList 1 w (fun i hi => by rw [h.cell (i := 1 + i) (by omega)]; rfl) (j - 1) (by omega)
    rw [show 1 + (j - 1) = j by omega] at hc
    rw [hc]
    unfold cpuF
    rw [if_neg (by omega), if_pos (by omega)]
    simp [stL]
  · rw [World.cell?_setCells_out C (stL s').toArray.toList 1 w ⟨C, j, none⟩ (fun _ _ => by show j < 1 ∨ 1 + (stL s').toArray.toList.length ≤ j; omega), h.cell hj]
    unfold cpuF
    by_cases e : j = 0
    · subst e; rfl
    · have e2 : ¬ j < 22 := by omega
      simp only [if_neg e, if_neg e2]
theorem Kept.setCellsOut {R : Nat → Prop} {w : World} (C o : Nat) (vs : List Value) (hR : ∀ k, R k → k < w.heap.size) : Kept (fun k => R k ∧ k ≠ C) w (w.setCells C o vs) := by
  obtain ⟨h1, h2, h3⟩ := io_setCells' C vs o w
  exact ⟨h1, h2, h3, by rw [size_setCells']; exact Nat.le_refl _, fun k hk => World.heap_setCells_other w C o vs (hR k hk.1) hk.2⟩

/-- What a step leaves. -/
structure StepR where
  n : Int
  e : Int
  mp : Int → Option Pg
  s : StV
  k : Int
  a : Int
def nextS (s : StV) (n : Nat) : StV := s.setIp ((s.ip + n) % 18446744073709551616)
def stepM (mp : Int → Option Pg) (s : StV) (fk fa : Int) (al : AlV) : StepR :=
  if (fetchM mp s.ip 12 []).flt = true then ⟨0, 17, (fetchM mp s.ip 12 []).mp, s, (fetchM mp s.ip 12 []).k, (fetchM mp s.ip 12 []).a⟩
  else if (fetchM mp s.ip 12 []).e ≠ 0 then ⟨0, (fetchM mp s.ip 12 []).e, (fetchM mp s.ip 12 []).mp, s, fk, fa⟩
  else if (doM (fetchM mp s.ip 12 []).x (nextS s (fetchM mp s.ip 12 []).n) mp al).ok = true then
    ⟨if (fetchM mp s.ip 12 []).x.op = 23 then wrap64 (wrap64 (fetchM mp s.ip 12 []).x.imm + 256) else 0, 0, (doM (fetchM mp s.ip 12 []).x (nextS s (fetchM mp s.ip 12 []).n) mp al).mp, (doM (fetchM mp s.ip 12 []).x (nextS s (fetchM mp s.ip 12 []).n) mp al).s, fk, fa⟩
  else ⟨0, 17, (doM (fetchM mp s.ip 12 []).x (nextS s (fetchM mp s.ip 12 []).n) mp al).mp, s, (doM (fetchM mp s.ip 12 []).x (nextS s (fetchM mp s.ip 12 []).n) mp al).k, (doM (fetchM mp s.ip 12 []).x (nextS s (fetchM mp s.ip 12 []).n) mp al).a⟩
structure StepQ (R : Nat → Prop) (w : World) (C M m : Nat) (most : Int) (r : StepR) (e : Ending) (w' : World) : Prop where
  e : e = .returned (.tuple #[.int .i64 r.n, .int .i64 r.e])
  mem : MemAt R w' M m most r.mp
  cpu : Own w' C 24 (cpuF M r.s r.k r.a)
  kept : Kept (fun k => R k ∧ k ≠ C) w w'
/-- What a fetch has, whenever it is no fault. -/
theorem fetch_bd (mp : Int → Option Pg) (HO : MpOk mp) (ip : Int) : ∀ (f : Nat) (bs : List Nat), Bn bs → bs.length + f = 12 → 0 < f → ((fetchM mp ip f bs).flt = true ∧ (fetchM mp ip f bs).e = 17) ∨ ((fetchM mp ip f bs).flt = false ∧ (fetchM mp ip f bs).mp = mp ∧ (fetchM mp ip f bs).n ≤ 11 ∧ ((fetchM mp ip f bs).e = 0 ∧ InsD (fetchM mp ip f bs).x ∨ (fetchM mp ip f bs).e = 16))
  | 0, _, _, _, h => absurd h (by omega)
  | f + 1, bs, hb, hl, _ => by
    unfold fetchM
    by_cases c : (askS mp 4 4 1 (atI ip bs.length) 1).1 = 0
    · rw [if_pos c]
      have hb2 : Bn (bs ++ [(byteAt mp (atI ip bs.length)).toNat]) := fun v hv => by
        rcases List.mem_append.mp hv with h | h
        · exact hb v h
        · rw [List.mem_singleton] at h; subst h; have := HO.bytes (atI ip bs.length); omega
      have hd := decode_bd _ hb2
      by_cases c2 : (decodeM forms 16 (bs ++ [(byteAt mp (atI ip bs.length)).toNat])).fit = 2
      · rw [if_pos c2]
        have hlen : (bs ++ [(byteAt mp (atI ip bs.length)).toNat]).length = bs.length + 1 := by simp
        refine fetch_bd mp HO ip f _ hb2 (by omega) ?_
        rcases hd.2 with h | h | h
        · rw [h.1] at c2; exact absurd c2 (by omega)
        · omega
        · rw [h] at c2; exact absurd c2 (by omega)
      · rw [if_neg c2]
        refine .inr ⟨rfl, rfl, hd.1, ?_⟩
        rcases hd.2 with h | h | h
        · exact .inl h
        · exact absurd h.1 c2
        · exact .inr h
    · rw [if_neg c]
      exact .inl ⟨rfl, rfl⟩
end Go.Proofs.Ythbgmlmcjnlopaa
