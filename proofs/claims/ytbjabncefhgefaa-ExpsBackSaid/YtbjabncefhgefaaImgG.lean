/- law 7's images, read again: the whole. -/
import Derived.Test.YtbjabncefhgefaaImgF
namespace Go.Proofs.Ytbjabncefhgefaa
open Go.ChangeShapes Go.WideShapes Go.ChangeAt Go.RowKit
set_option linter.unusedVariables false
set_option linter.unusedSimpArgs false

theorem parse_at (base : Nat) (fs ns : List (List Nat)) (hf : fs.length ≤ 12) (hn : ns.length ≤ fs.length) (hb : base + fs.length ≤ 65536) (hb' : base < 65536)
    (k1 : ∀ s ∈ fs, s.length ≤ 64 ∧ nonz s = true ∧ (s.contains 46 = true → splitOk s = true)) (k2 : ∀ s ∈ ns, s.length ≤ 60 ∧ nonz s = true ∧ okSymL s = true) (k3 : rises [] ns = true) :
    parseE (atE 256 fs ns base) 256 (((atB 256 fs ns.length base).length : Int) - 256) = some (base, fV 0 fs, nV 0 ns) ∧ (atB 256 fs ns.length base).length ≤ 2000 ∧ 296 ≤ (atB 256 fs ns.length base).length ∧ (atE 256 fs ns base).length ≤ 100000 := by
  obtain ⟨z0, z1, z2, z3, z4, z5, z6⟩ := atH_spec 256 fs.length ns.length base (by omega) (by omega) hf (by omega)
  unfold atE
  unfold atB
  obtain ⟨H, hH⟩ : ∃ H, atH 256 fs.length ns.length base = H := ⟨_, rfl⟩
  rw [hH] at z0 z1 z2 z3 z4 z5 z6 ⊢
  obtain ⟨b1, b2, b3, b4⟩ := atF_spec (rows := 256 + 40) (Z := 296 + 4 * fs.length + 6 * ns.length) fs 0 H (by omega) (by omega) (by omega) (by omega) (fun s hs => (k1 s hs).1)
  obtain ⟨B, hB⟩ : ∃ B, atF (256 + 40) fs 0 H = B := ⟨_, rfl⟩
  rw [hB] at b1 b2 b3 b4 ⊢
  obtain ⟨⟨c1, c4⟩, c2, c3⟩ := atN_spec (r1 := 256 + 40 + 4 * fs.length) (r2 := 256 + 40 + 4 * fs.length + 4 * ns.length) (n := fs.length) (Z := 296 + 4 * fs.length + 6 * ns.length) ns 0 B (by omega) (by omega) (by omega) (by omega) (by omega) (fun s hs => by have := (k2 s hs).1; omega)
  obtain ⟨C, hC⟩ : ∃ C, atN (256 + 40 + 4 * fs.length) (256 + 40 + 4 * fs.length + 4 * ns.length) fs.length ns 0 B = C := ⟨_, rfl⟩
  rw [hC] at c1 c2 c3 c4 ⊢
  clear hH hB hC
  have hd : ∀ o, o + 4 ≤ 296 → 256 ≤ o → numL (C.drop o) 4 = numL (H.drop o) 4 := fun o h1 h2 => by
    rw [numL_agree 4 _ (c2 o 4 (by omega) (by omega)), numL_agree 4 _ (b3 o 4 (by omega) (by omega))]
  have hfn : ∀ j (hj : j < fs.length), readFn C 256 (B.length - 256) (numL (C.drop (296 + 4 * (0 + j))) 4) = some (fV1 (0 + j) fs[j]) := by
    intro j hj
    have hr := b4 j hj
    have hk := k1 fs[j] (List.getElem_mem hj)
    rw [numL_agree 4 _ (c2 (296 + 4 * (0 + j)) 4 (by omega) (by omega))]
    unfold FnRow at hr
    unfold fV1 readFn
    by_cases hs : fs[j].contains 46 = true
    · rw [if_pos hs] at hr
      obtain ⟨v, hv, hnv, ht⟩ := hr
      have hvv : numL (B.drop (296 + 4 * (0 + j))) 4 = v := hnv
      rw [hvv, if_pos hs]
      have htl := ht.lt
      rw [if_neg (by omega)]
      rw [(ht.later (c2 v (fs[j].length + 1) (by omega) (by omega))).read (nonz_iff hk.2.1) hk.1]
      simp only [hk.2.2 hs, if_true]
    · rw [if_neg hs] at hr
      have hvv : numL (B.drop (296 + 4 * (0 + j))) 4 = if fs[j] = [] then 0 else 64 + (0 + j) := hr
      rw [hvv, if_neg hs]
      by_cases he : fs[j] = []
      · rw [if_pos he, if_pos he, if_pos (by omega), if_pos (by omega)]
      · rw [if_neg he, if_neg he, if_pos (by omega), if_pos (by omega)]
  have hnm : ∀ j (hj : j < ns.length), textL C (numL (C.drop (256 + 40 + 4 * fs.length + 4 * (0 + j))) 4) 64 = some ns[j] ∧ numL (C.drop (256 + 40 + 4 * fs.length + 4 * ns.length + 2 * (0 + j))) 2 = 0 + j := by
    intro j hj
    obtain ⟨t1, t2⟩ := c3 j hj
    have hk := k2 ns[j] (List.getElem_mem hj)
    refine ⟨t1.read (nonz_iff hk.2.1) (by omega), ?_⟩
    rw [t2]
    exact Nat.mod_eq_of_lt (by omega)
  have hrows : rowsL C 256 = ⟨base, fs.length, ns.length, 296, 256 + 40 + 4 * fs.length, 256 + 40 + 4 * fs.length + 4 * ns.length⟩ := by
    unfold rowsL
    rw [hd _ (by omega) (by omega), hd _ (by omega) (by omega), hd _ (by omega) (by omega), hd _ (by omega) (by omega), hd _ (by omega) (by omega), hd _ (by omega) (by omega), z1, z2, z3, z4, z5, z6]
  have hfind : findE C 256 ((B.length : Int) - 256) = some ⟨base, fs.length, ns.length, 296, 256 + 40 + 4 * fs.length, 256 + 40 + 4 * fs.length + 4 * ns.length⟩ := by
    unfold findE
    rw [if_pos (by omega)]
    have e256 : (256 : Int).toNat = 256 := rfl
    rw [e256, hrows, if_pos]
    simp only [Rw.ok, inL, Bool.and_eq_true, Bool.or_eq_true, decide_eq_true_eq]
    omega
  refine ⟨?_, by omega, by omega, by omega⟩
  unfold parseE
  rw [if_neg (by omega), hfind]
  have e256 : (256 : Int).toNat = 256 := rfl
  have esz : ((B.length : Int) - 256).toNat = B.length - 256 := by omega
  simp only
  rw [e256, esz, funcs_told fs 0 [] hfn]
  simp only
  rw [names_told ns 0 [] [] (by omega) k3 (fun s hs => (k2 s hs).2.2) hnm]
  simp
end Go.Proofs.Ytbjabncefhgefaa
