/- law 8's Made, and awake. · law 8: rows of descriptors that the law itself builds. -/
import Derived.Test.YtbjabncefhgefaaImpS
import Derived.Test.YtbjabncefhgefaaMgD
import Derived.Test.YtbjabncefhgefaaMgB
namespace Go.Proofs.Ytbjabncefhgefaa
open Go.ChangeShapes Go.WideShapes Go.ChangeAt Go.RowKit
set_option linter.unusedVariables false
set_option linter.unusedSimpArgs false
set_option maxRecDepth 100000

/-- A descriptor that is to be, and where its symbols lie. -/
structure PImA where
  v : PIm
  A : Option Addr
  c : Nat
def pimC (y : PImA) : List Value := [.string (txt y.v.dll), .slice y.A y.v.syms.length y.c]
theorem pimC_len (y : PImA) : (pimC y).length = 2 := rfl
theorem pimC_one (y : PImA) : ∀ u ∈ pimC y, u.oneCell' = true := by
  intro u hu
  simp [pimC] at hu
  rcases hu with rfl | rfl <;> rfl
def PImOk (x : PIm) : Prop := (Lb x.dll ∧ x.dll.length ≤ 100) ∧ (∀ s ∈ x.syms, Lb s.1 ∧ s.1.length ≤ 100) ∧ x.syms.length ≤ 100000

/-- Made at rows that lie in a slice. -/
theorem made8_any (bl offl lc : Nat) (delay : Bool) (l : List PImA) (w : World) (hll : l.length ≤ 100000) (hs : SlT pimC 2 w (some ⟨bl, offl, none⟩) l) (hy : ∀ y ∈ l, SlT symC 3 w y.A y.v.syms) (hok : ∀ y ∈ l, PImOk y.v) (img : List Nat) (himg : at8 64 (l.map (·.v)) delay = img) :
    Calls Try.prog 20 #[.slice (some ⟨bl, offl, none⟩) l.length lc, .bool delay] w fun e w' => ∃ g c, e = .returned (.slice (some ⟨g, 0, none⟩) img.length c) ∧ OwnD w' w.heap.size g c img ∧ Below w.heap.size w w' := by
  have HA := Lib.hid (at8_calls 64 bl offl lc (min l.length 18) delay (l.map (·.v)) w (by rw [List.length_map]) (by omega) (by rw [List.length_map]; exact hll)
    (Lib.hid (fun i x hx => by
      rw [List.getElem?_map] at hx
      rcases hi : l[i]? with _ | y
      · rw [hi] at hx; cases hx
      rw [hi] at hx
      injection hx with hx
      subst hx
      obtain ⟨hil, hiy⟩ := List.getElem?_eq_some_iff.mp hi
      refine ⟨y.A, y.c, fun W hW => ?_⟩
      have hsw := hs.below hW
      have hyw := (hy y (List.mem_of_getElem? hi)).below hW
      rcases hsw with h0 | ⟨b, off, he, _, hc⟩
      · rw [h0] at hil; simp at hil
      · injection he with he
        injection he with he1 he2
        subst he1 he2
        refine ⟨?_, ?_, hyw⟩
        · have := hc i hil 0 (.string (txt y.v.dll)) (by rw [hiy]; rfl)
          exact this
        · have := hc i hil 1 (.slice y.A y.v.syms.length y.c) (by rw [hiy]; rfl)
          exact this))
    (Lib.hid (fun x hx => by
      obtain ⟨y, hy1, rfl⟩ := List.mem_map.mp hx
      exact hok y hy1)))
  rw [List.length_map, himg] at HA
  clear hs hy hok himg
  go_enter Try.func20, Try.ntmps20
  go_wp2_with fail
  refine HA.out.mono ?_
  rintro e w' ⟨g, c, rfl, ho, hw⟩
  have HO := Lib.hid ho
  have HW := Lib.hid hw
  clear ho hw
  go_wp2_with fail
  go_ret
  exact ⟨g, c, rfl, HO.out, HW.out⟩

theorem txt8_f : txt [102] = ⟨#[102]⟩ := by decide +kernel
theorem txt8_e : txt [] = ⟨#[]⟩ := by decide +kernel
theorem txt_dll : txt [97, 46, 100, 108, 108] = ⟨#[97, 46, 100, 108, 108]⟩ := by decide +kernel
theorem slT_new {α : Type} {C : α → List Value} {sz : Nat} (hC : ∀ x, (C x).length = sz) (w : World) (l : List α) (vs : Array Value) (t : TypeId) (h : vs.toList = l.flatMap C) : SlT C sz (w.alloc (.cells vs t)) (some ⟨w.heap.size, 0, none⟩) l := by
  refine .inr ⟨w.heap.size, 0, rfl, by simp, fun i hi j u hu => ?_⟩
  have hj : j < sz := by rw [← hC l[i]]; exact (List.getElem?_eq_some_iff.1 hu).1
  rw [cell_of_row _ _ _ _ _ _ (heap_alloc_new w _), Nat.zero_add, ← Array.getElem?_toList, h, flatC_get hC l i j hi hj]
  exact hu

set_option maxHeartbeats 4000000 in
theorem awake8_any (w : World) : Calls Try.prog 23 #[] w fun e w' => e = .returned (.bool true) ∧ Below w.heap.size w w' := by
  have HM := Lib.hid (show Calls Try.prog 20 #[.slice (some ⟨w.heap.size + 1, 0, none⟩) 1 1, .bool false] ((w.alloc (.cells #[.string ⟨#[102]⟩, .int .i64 0, .bool false, .string ⟨#[]⟩, .int .i64 5, .bool true] 50)).alloc (.cells #[.string ⟨#[97, 46, 100, 108, 108]⟩, .slice (some ⟨w.heap.size, 0, none⟩) 2 2] 66)) fun e w' =>
      ∃ g c, e = .returned (.slice (some ⟨g, 0, none⟩) img8.length c) ∧ (∃ base, OwnD w' base g c img8) ∧ Below w.heap.size w w' from by
    have hS : SlT symC 3 (w.alloc (.cells #[.string ⟨#[102]⟩, .int .i64 0, .bool false, .string ⟨#[]⟩, .int .i64 5, .bool true] 50)) (some ⟨w.heap.size, 0, none⟩) [([102], 0, false), ([], 5, true)] := slT_new symC_len w _ _ _ (by simp [symC, txt8_f, txt8_e])
    have hP : SlT pimC 2 ((w.alloc (.cells #[.string ⟨#[102]⟩, .int .i64 0, .bool false, .string ⟨#[]⟩, .int .i64 5, .bool true] 50)).alloc (.cells #[.string ⟨#[97, 46, 100, 108, 108]⟩, .slice (some ⟨w.heap.size, 0, none⟩) 2 2] 66)) (some ⟨w.heap.size + 1, 0, none⟩) [⟨⟨[97, 46, 100, 108, 108], [([102], 0, false), ([], 5, true)]⟩, some ⟨w.heap.size, 0, none⟩, 2⟩] := by
      have h := slT_new pimC_len (w.alloc (.cells #[.string ⟨#[102]⟩, .int .i64 0, .bool false, .string ⟨#[]⟩, .int .i64 5, .bool true] 50)) [⟨⟨[97, 46, 100, 108, 108], [([102], 0, false), ([], 5, true)]⟩, some ⟨w.heap.size, 0, none⟩, 2⟩] #[.string ⟨#[97, 46, 100, 108, 108]⟩, .slice (some ⟨w.heap.size, 0, none⟩) 2 2] 66 (by simp [pimC, txt_dll])
      rwa [show (w.alloc (.cells #[.string ⟨#[102]⟩, .int .i64 0, .bool false, .string ⟨#[]⟩, .int .i64 5, .bool true] 50)).heap.size = w.heap.size + 1 by simp] at h
    refine (made8_any (w.heap.size + 1) 0 1 false [⟨⟨[97, 46, 100, 108, 108], [([102], 0, false), ([], 5, true)]⟩, some ⟨w.heap.size, 0, none⟩, 2⟩] _ (by simp) hP (fun y hy => by
      simp at hy
      subst hy
      exact hS.below ((Below.refl _ _).alloc (Nat.le_refl _) _)) (fun y hy => by
      simp at hy
      subst hy
      refine ⟨⟨fun v hv => by simp at hv; omega, by simp⟩, fun s hs => ?_, by simp⟩
      simp at hs
      rcases hs with rfl | rfl
      · exact ⟨fun v hv => by simp at hv; omega, by simp⟩
      · exact ⟨fun v hv => by simp at hv, by simp⟩) img8 rfl).mono ?_
    rintro e w' ⟨g, c, rfl, ho, hw⟩
    exact ⟨g, c, rfl, ⟨_, ho⟩, (((Below.refl w.heap.size w).alloc (Nat.le_refl _) _).alloc (by simp) _).trans (hw.mono (by simp; omega))⟩)
  have HNIL := Lib.hid (fun W => show Calls Try.prog 21 #[.slice none 0 0, .agg #[.int .i64 1, .int .i64 0]] W fun e w' => ImpQ W w' (parseI [] 1 20 importD) e ∧ Below W.heap.size W w' from imParse_any none 0 [] 1 0 W (Nat.le_refl _) (by omega) (by simp) (fun v hv => by simp at hv) (.inl rfl) (by omega))
  rw [nil8_is] at HNIL
  go_enter Try.func23, Try.ntmps23
  go_wp2_with fail
  refine HM.out.mono ?_
  rintro e w1 ⟨g, c, rfl, ⟨base, ho⟩, hw1⟩
  have HB := Lib.hid hw1
  have HO := Lib.hid ho
  have HP := Lib.hid (fun W (hW : Below w1.heap.size w1 W) => show Calls Try.prog 21 #[.slice (some ⟨g, 0, none⟩) img8.length c, .agg #[.int .i64 64, .int .i64 0]] W fun e w' => ImpQ W w' (parseI img8 64 20 importD) e ∧ Below W.heap.size W w' from imParse_any (some ⟨g, 0, none⟩) c img8 64 0 W (HO.out.below hW).len (HO.out.below hW).most (by rw [img8_len]; omega) (HO.out.below hW).lb (HO.out.below hW).slB (by omega))
  rw [img8_is] at HP
  have HD := Lib.hid (fun W (hW : Below w1.heap.size w1 W) => show Calls Try.prog 22 #[.slice (some ⟨g, 0, none⟩) img8.length c, .agg #[.int .i64 0, .int .i64 0]] W fun e w' => ImpQ W w' (parseI img8 0 32 delayD) e ∧ Below W.heap.size W w' from imDelays_any (some ⟨g, 0, none⟩) c img8 0 0 W (HO.out.below hW).len (HO.out.below hW).most (by rw [img8_len]; omega) (HO.out.below hW).lb (HO.out.below hW).slB (by omega))
  rw [img8_late] at HD
  clear hw1 ho HM
  go_wp2_with fail
  refine (HP.out w1 (Below.refl _ _)).mono ?_
  rintro e w2 ⟨⟨A, c1, l, rfl, ⟨ho1, hs1⟩, hl1⟩, hw2⟩
  have HB12 := Lib.hid hw2
  have HB2 := Lib.hid (HB.out.trans (HB12.out.mono HB.out.size))
  obtain ⟨y, rfl⟩ : ∃ y, l = [y] := by
    rcases l with _ | ⟨y, _ | ⟨z, r⟩⟩
    · cases hl1
    · exact ⟨y, rfl⟩
    · simp at hl1
  have hyv : y.v = imp8 := by simpa using hl1
  obtain ⟨A', cap', hv, _, _, hl | ⟨g1, hA, _, _⟩⟩ := ho1.form
  · simp at hl
  injection hv with hv _ _
  subst hv hA
  have hc0 := ho1.cell impC_len 0 (by simp) 0 (.string ⟨#[97, 46, 100, 108, 108]⟩) (by simp [impC, hyv, imp8, txt_dll])
  have hc4 := ho1.cell impC_len 0 (by simp) 4 (.slice y.A 2 y.c) (by simp [impC, hyv, imp8])
  have hsy := hs1 y (by simp)
  rw [hyv] at hsy
  rcases hsy with h0 | ⟨bs, os, hA, hlt, hcs⟩
  · simp [imp8] at h0
  have hc5 := hcs 1 (by simp [imp8]) 1 (.int .i64 5) (by simp [imp8, symC])
  rw [hA] at hc4
  have hg1 := cell_lt hc0
  simp only [Nat.zero_mul, Nat.zero_add] at hc0 hc4
  have HC := Lib.hid (fun W (hW : Below w2.heap.size w2 W) => And.intro ((hW.cell (p := ⟨g1, 0, none⟩) hg1).trans hc0) (And.intro ((hW.cell (p := ⟨g1, 4, none⟩) hg1).trans hc4) ((hW.cell (p := ⟨bs, _, none⟩) hlt).trans hc5)))
  clear hc0 hc4 hc5 hcs hs1 ho1 hw2 HP hl1 hyv hA hlt hg1
  go_wp2_with fail
  refine (HD.out w2 HB12.out).mono ?_
  rintro e w3 ⟨⟨A, c2, l, rfl, _, hl1⟩, hw3⟩
  have hl0 : l = [] := by simpa using hl1
  subst hl0
  have HB23 := Lib.hid hw3
  clear hl1 hw3 HD
  go_wp2_with fail
  refine (HNIL.out w3).mono ?_
  rintro e w4 ⟨hq, hw4⟩
  have hq' : e = .returned (.tuple #[.slice none 0 0, .int .i64 10]) := hq
  subst hq'
  have HB24 := Lib.hid (HB23.out.trans (hw4.mono HB23.out.size))
  have HB4 := Lib.hid (HB2.out.trans (HB24.out.mono HB2.out.size))
  obtain ⟨k0, k1, k2⟩ := HC.out w4 HB24.out
  clear hq hw4 HNIL HC
  go_wp2_with fail
  go_ret
  exact ⟨rfl, HB4.out⟩
end Go.Proofs.Ytbjabncefhgefaa
namespace Go.Proofs.Ytbjabncefhgefaa
open Go.ChangeShapes Go.WideShapes Go.ChangeAt Go.RowKit
set_option linter.unusedVariables false
set_option linter.unusedSimpArgs false
set_option maxRecDepth 100000

theorem infoPImp : (Try.prog.info? 66).map (fun i => (i.zero, i.size, i.bytes)) = some (some (.agg #[.string ByteArray.empty, .slice none 0 0]), 2, 40) := by kernel_rfl
/-- Rows of the call's own, whose symbols lie beside them. -/
def PRows (w : World) (base : Nat) (v : Value) (l : List PImA) : Prop :=
  OwnT pimC 2 w base 66 v l ∧ ∀ y ∈ l, SlT symC 3 w y.A y.v.syms ∧ (y.v.syms ≠ [] → ∀ b, y.A.map (·.block) = some b → v.ownBlock ≠ some b)
theorem PRows.nil (w : World) (base : Nat) : PRows w base (.slice none 0 0) [] := ⟨OwnT.nil _ _ _, fun y hy => by simp at hy⟩
theorem PRows.below {w w' : World} {base : Nat} {v : Value} {l : List PImA} (h : PRows w base v l) (hb : Below w.heap.size w w') : PRows w' base v l :=
  ⟨h.1.below hb, fun y hy => ⟨(h.2 y hy).1.below hb, (h.2 y hy).2⟩⟩
theorem PRows.app {w w' : World} {base : Nat} {v : Value} {l : List PImA} {y : PImA} {g c : Nat} (h : PRows w base v l) (hy : SlT symC 3 w y.A y.v.syms) (hya : y.v.syms ≠ [] → ∀ b, y.A.map (·.block) = some b → v.ownBlock ≠ some b)
    (hn : OwnT pimC 2 w' base 66 (.slice (some ⟨g, 0, none⟩) (l.length + 1) c) (l ++ [y])) (hg : w.grownBy w' v.ownBlock) (hat : v.ownBlock = some g ∨ g = w.heap.size) : PRows w' base (.slice (some ⟨g, 0, none⟩) (l ++ [y]).length c) (l ++ [y]) := by
  have hall : ∀ z ∈ l ++ [y], SlT symC 3 w z.A z.v.syms ∧ (z.v.syms ≠ [] → ∀ b, z.A.map (·.block) = some b → v.ownBlock ≠ some b) := fun z hz => by
    rcases List.mem_append.mp hz with h1 | h1
    · exact h.2 z h1
    · simp at h1; subst h1; exact ⟨hy, hya⟩
  refine ⟨by simpa using hn, fun z hz => ?_⟩
  obtain ⟨k1, k2⟩ := hall z hz
  by_cases h0 : z.v.syms = []
  · exact ⟨.inl h0, fun e => absurd h0 e⟩
  · rcases k1 with h1 | ⟨b, off, hA, hlt, hc⟩
    · exact absurd h1 h0
    · refine ⟨SlT.keep (.inr ⟨b, off, hA, hlt, hc⟩) hg.size fun b' hb' => ?_, fun _ b' hb' hk => ?_⟩
      · have hbb : b = b' := by rw [hA] at hb'; simpa using hb'
        exact hg.block b' (by omega) (fun e => k2 h0 b' hb' e.symm)
      · have hgb : g = b' := by simpa [Value.ownBlock] using hk
        rcases hat with h | h
        · exact k2 h0 b' hb' (by rw [h, hgb])
        · have hbb : b = b' := by rw [hA] at hb'; simpa using hb'
          omega
theorem pimCells (y : PImA) (w : World) : ∀ j u, (pimC y)[j]? = some u → (w.alloc (.cells #[.string (txt y.v.dll), .slice y.A y.v.syms.length y.c] 66)).cell? ⟨w.heap.size, j, none⟩ = some u := by
  intro j u hu
  rcases j with _ | _ | j
  · simp [pimC] at hu; subst hu; simp [go_sem]
  · simp [pimC] at hu; subst hu; simp [go_sem]
  · simp [pimC] at hu
/-- What is told, with how many rows. -/
theorem ImpQ.told {w w' : World} {R : Option (List ImpV)} {e : Ending} (h : ImpQ w w' R e) : ∃ A n c, ∃ y : Int, e = .returned (.tuple #[.slice A n c, .int .i64 y]) ∧ ((R.map List.length = some n ∧ y = 0) ∨ (R = none ∧ n = 0 ∧ y = 10)) := by
  rcases R with _ | vs
  · exact ⟨none, 0, 0, 10, h, .inr ⟨rfl, rfl, rfl⟩⟩
  · obtain ⟨A, c, l, rfl, _, hl⟩ := h
    refine ⟨A, l.length, c, 0, rfl, .inl ⟨?_, rfl⟩⟩
    rw [Option.map_some, ← hl, List.length_map]
theorem ImpQ.good {w w' : World} {R : Option (List ImpV)} {e : Ending} {g : Bool} {n : Nat} (h : ImpQ w w' R e) (hR : R.map List.length = if g = true then some n else none) : ∃ A m c, ∃ y : Int, e = .returned (.tuple #[.slice A m c, .int .i64 y]) ∧ ((g = true ∧ m = n ∧ y = 0) ∨ (g = false ∧ m = 0 ∧ y = 10)) := by
  obtain ⟨A, m, c, y, he, h1⟩ := h.told
  refine ⟨A, m, c, y, he, ?_⟩
  cases g
  · rw [if_neg (by simp)] at hR
    rcases h1 with ⟨h1, _⟩ | ⟨_, h2, h3⟩
    · rw [h1] at hR; cases hR
    · exact .inr ⟨rfl, h2, h3⟩
  · rw [if_pos rfl] at hR
    rcases h1 with ⟨h1, h2⟩ | ⟨h1, _⟩
    · rw [h1] at hR; exact .inl ⟨rfl, Option.some.inj hR, h2⟩
    · rw [h1] at hR; cases hR
end Go.Proofs.Ytbjabncefhgefaa
