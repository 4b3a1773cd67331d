/- package sect: Offset, ProtAt. -/
import Derived.Test.YtlgdaljbajebhaaSectB
namespace Go.Proofs.Ytlgdaljbajebhaa
open Go.ChangeShapes Go.WideShapes Go.ChangeAt Go.RowKit
set_option linter.unusedVariables false

theorem ofS_some {r : Int} : ∀ {l : List SectN} {k i : Nat}, ofS r l k = some i → k ≤ i ∧ ∃ s d, l[i - k]? = some s ∧ behindS s r = some d
  | [], k, i, h => by cases h
  | s :: l, k, i, h => by
    unfold ofS at h
    split at h
    · rename_i hs
      injection h with h
      subst h
      obtain ⟨d, hd⟩ := Option.isSome_iff_exists.1 hs
      exact ⟨Nat.le_refl _, s, d, by simp, hd⟩
    · obtain ⟨h1, s', d, h2, h3⟩ := ofS_some h
      refine ⟨by omega, s', d, ?_, h3⟩
      rw [show i - k = (i - (k + 1)) + 1 by omega]
      simpa using h2

/-- Where the byte at a place stands in the file. -/
def offS (hd : Int) (l : List SectN) (r : Int) : Option Int :=
  if 0 ≤ r ∧ r < hd then some r else (ofS r l 0).bind fun i => l[i]?.bind fun s => (behindS s r).bind fun d => if s.raw ≤ d then none else some (s.spot + d)

theorem behindS_bd {s : SectN} {r d : Int} (hb : SectBd s) (h : behindS s r = some d) : 0 ≤ d ∧ d < 4294967296 := by
  have := roundS_bd4 s.vsize hb.v1
  unfold behindS at h
  split at h
  · cases h
  · split at h
    · cases h
    · injection h with h
      omega

set_option maxRecDepth 100000 in
set_option maxHeartbeats 2000000 in
theorem offset_any (cs : Array Value) (h : HeadN) (g c : Nat) (l : List SectN) (r : Int) (w : World) (hh : HeadL w cs h g c l) (r0 : -9223372036854775808 ≤ r) (r1 : r ≤ 9223372036854775807) :
    Calls Try.prog 22 #[.agg cs, .int .i64 r] w fun e u => e = .returned (.tuple #[.int .i64 ((offS h.headers l r).getD 0), .bool (offS h.headers l r).isSome]) ∧ Below w.heap.size w u := by
  have HH := Lib.hid hh
  have HB0 := Lib.hid ((Below.refl w.heap.size w).alloc (Nat.le_refl _) (.cells cs 32))
  have hg := heap_alloc_new w (.cells cs 32)
  have c38 := hh.hv.c38
  have c5 := hh.hv.c5
  have HCZ := Lib.hid hh.hv.size
  unfold offS
  generalize h.headers = y5 at *
  by_cases q : 0 ≤ r ∧ r < y5
  · obtain ⟨q1, q2⟩ := q
    rw [if_pos ⟨q1, q2⟩]
    clear hg
    go_enter Try.func22, Try.ntmps22
    go_wp2_with fail
    go_ret2
    exact ⟨rfl, HB0.out⟩
  · rw [if_neg q]
    have hq : (decide (0 ≤ r) && decide (r < y5)) = false := by
      rw [Bool.and_eq_false_iff, decide_eq_false_iff_not, decide_eq_false_iff_not]
      omega
    have hqq : (¬ 0 ≤ r) ∨ (0 ≤ r ∧ ¬ r < y5) := by omega
    have HO := Lib.hid (fun (W : World) (hb : Below w.heap.size w W) => of_any cs h g c l r W (HH.out.below hb) r0 r1)
    clear hh q
    generalize hof : ofS r l 0 = O at *
    have HG := Lib.hid hg
    clear hg hq
    rcases hqq with hneg | ⟨hpos, hnlt⟩
    all_goals
      go_enter Try.func22, Try.ntmps22
      go_wp2_with (refine wpList_load_row rfl 32 _ rfl w.heap.size rfl 32 cs (0, 0) _ HG.out rfl rfl (by rw [HCZ.out]; rfl) ?_)
      refine (HO.out _ HB0.out).mono ?_
      rintro e u ⟨rfl, hb⟩
      have HU := Lib.hid (HB0.out.trans (hb.mono HB0.out.size))
      have hgu := (hb.block w.heap.size (by simp)).trans HG.out
      have k38 := (cell_of_row _ _ 38 _ _ _ hgu).trans c38
      clear hb hgu
      cases O with
      | none =>
        go_wp2_with fail
        go_ret2
        exact ⟨rfl, HU.out⟩
      | some i =>
        obtain ⟨_, s, d, hs, hd⟩ := ofS_some hof
        rw [Nat.sub_zero] at hs
        obtain ⟨hi, hs'⟩ := List.getElem?_eq_some_iff.1 hs
        have hbd := HH.out.bd s (by rw [← hs']; exact List.getElem_mem hi)
        have hdb := behindS_bd hbd hd
        obtain ⟨d0, d1, d2, d3, d4, d5⟩ := (HH.out.sl.below HU.out).at6 i hi
        rw [hs'] at d0 d1 d2 d3 d4 d5
        have hlen := HH.out.len
        have hi' : (i : Int) < l.length := by omega
        have HBH := Lib.hid (fun W => behind_any s r W hbd r0 r1)
        rw [hd] at HBH
        have hs0 := hbd.s0
        have hs1 := hbd.s1
        have HUL := Lib.hid (HU.out.size)
        obtain ⟨nm, v, rva, raw, spot, ch⟩ := s
        simp only at d0 d1 d2 d3 d4 d5 hs0 hs1
        simp only [Option.getD_some] at HBH
        go_wp2_with fail
        refine (HBH.out _).mono ?_
        rintro e u2 ⟨rfl, hb2⟩
        have hg2 := heap_alloc_new u (.cells (SectN.arr ⟨nm, v, rva, raw, spot, ch⟩) 37)
        have hgu2 := (hb2.block u.heap.size (by simp [SectN.arr])).trans hg2
        have j3 := (cell_of_row _ _ 3 _ _ _ hgu2).trans (show (SectN.arr ⟨nm, v, rva, raw, spot, ch⟩)[3]? = some (.int .i64 raw) from rfl)
        have j4 := (cell_of_row _ _ 4 _ _ _ hgu2).trans (show (SectN.arr ⟨nm, v, rva, raw, spot, ch⟩)[4]? = some (.int .i64 spot) from rfl)
        have HU2 : Hid (Below w.heap.size w u2) := Lib.hid ((HU.out.alloc HU.out.size _).trans (hb2.mono (by have := HUL.out; simp; omega)))
        clear hb2 hg2 hgu2
        by_cases hr : raw ≤ d
        · go_wp2_with fail
          go_ret2
          exact ⟨by simp only [hs, hd, Option.bind_some]; rw [if_pos (show raw ≤ d by omega)]; rfl, HU2.out⟩
        · have hr' : d < raw := by omega
          go_wp2_with fail
          go_ret2
          exact ⟨by simp only [hs, hd, Option.bind_some]; rw [if_neg (show ¬ raw ≤ d by omega)]; rfl, HU2.out⟩
end Go.Proofs.Ytlgdaljbajebhaa
