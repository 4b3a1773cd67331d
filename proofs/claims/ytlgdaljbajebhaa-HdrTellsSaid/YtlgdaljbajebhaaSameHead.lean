/- the document's answer: SameHead of two heads that are the same; Int. -/
import Derived.Test.YtlgdaljbajebhaaHdrN
import Derived.Test.YtlgdaljbajebhaaAwake6
import Derived.Test.YtlgdaljbajebhaaRef1
import Derived.DeepKeys
namespace Go.Proofs.Ytlgdaljbajebhaa
open Go.ChangeShapes Go.WideShapes Go.ChangeAt Go.RowKit
set_option linter.unusedVariables false

/-- A slice of sections, or none. -/
def SectSl (w : World) (sv : Value) (l : List SectN) : Prop := ∃ A c, sv = .slice A l.length c ∧ SlT SectN.cells 6 w A l ∧ l.length ≤ 16

theorem SlT.at6o {w : World} {b o : Nat} {l : List SectN} (h : SlT SectN.cells 6 w (some ⟨b, o, none⟩) l) (i : Nat) (hi : i < l.length) :
    b < w.heap.size ∧ w.cell? ⟨b, o + i * 6, none⟩ = some (.string l[i].name) ∧ w.cell? ⟨b, o + i * 6 + 1, none⟩ = some (.int .i64 l[i].vsize) ∧ w.cell? ⟨b, o + i * 6 + 2, none⟩ = some (.int .i64 l[i].rva) ∧
    w.cell? ⟨b, o + i * 6 + 3, none⟩ = some (.int .i64 l[i].raw) ∧ w.cell? ⟨b, o + i * 6 + 4, none⟩ = some (.int .i64 l[i].spot) ∧ w.cell? ⟨b, o + i * 6 + 5, none⟩ = some (.int .i64 l[i].chars) := by
  rcases h with rfl | ⟨b', off, hb, hlt, hc⟩
  · simp at hi
  · injection hb with hb
    injection hb with h1 h2
    subst h1 h2
    have k := fun j v hv => hc i hi j v hv
    exact ⟨hlt, k 0 _ rfl, k 1 _ rfl, k 2 _ rfl, k 3 _ rfl, k 4 _ rfl, k 5 _ rfl⟩

/-- The directories of a head, as one row. -/
theorem HeadV.dirs {cs cs' : Array Value} {h : HeadN} {sv sv' : Value} (x : HeadV cs h sv) (y : HeadV cs' h sv') (j : Nat) (hj : j < 38) : cs[j]? = cs'[j]? := by
  rcases (by omega : j = 0 ∨ j = 1 ∨ j = 2 ∨ j = 3 ∨ j = 4 ∨ j = 5 ∨ ((j - 6) / 2 < 16 ∧ j = 6 + 2 * ((j - 6) / 2)) ∨ ((j - 6) / 2 < 16 ∧ j = 6 + 2 * ((j - 6) / 2) + 1)) with h | h | h | h | h | h | ⟨hi, h⟩ | ⟨hi, h⟩
  · rw [h, x.c0, y.c0]
  · rw [h, x.c1, y.c1]
  · rw [h, x.c2, y.c2]
  · rw [h, x.c3, y.c3]
  · rw [h, x.c4, y.c4]
  · rw [h, x.c5, y.c5]
  · rw [h, x.dir0 _ hi, y.dir0 _ hi]
  · rw [h, x.dir1 _ hi, y.dir1 _ hi]

/-- The directories of a head. -/
def dirL (h : HeadN) : List Value := [.int .i64 (h.dirs 0).1, .int .i64 (h.dirs 0).2, .int .i64 (h.dirs 1).1, .int .i64 (h.dirs 1).2, .int .i64 (h.dirs 2).1, .int .i64 (h.dirs 2).2, .int .i64 (h.dirs 3).1, .int .i64 (h.dirs 3).2, .int .i64 (h.dirs 4).1, .int .i64 (h.dirs 4).2, .int .i64 (h.dirs 5).1, .int .i64 (h.dirs 5).2, .int .i64 (h.dirs 6).1, .int .i64 (h.dirs 6).2, .int .i64 (h.dirs 7).1, .int .i64 (h.dirs 7).2, .int .i64 (h.dirs 8).1, .int .i64 (h.dirs 8).2, .int .i64 (h.dirs 9).1, .int .i64 (h.dirs 9).2, .int .i64 (h.dirs 10).1, .int .i64 (h.dirs 10).2, .int .i64 (h.dirs 11).1, .int .i64 (h.dirs 11).2, .int .i64 (h.dirs 12).1, .int .i64 (h.dirs 12).2, .int .i64 (h.dirs 13).1, .int .i64 (h.dirs 13).2, .int .i64 (h.dirs 14).1, .int .i64 (h.dirs 14).2, .int .i64 (h.dirs 15).1, .int .i64 (h.dirs 15).2]

theorem HeadV.dirRow {cs : Array Value} {h : HeadN} {sv : Value} (x : HeadV cs h sv) {w : World} {g : Nat} (hg : w.heap[g]? = some (.cells cs 32 (0, 0))) : w.rangeAt g 6 (dirL h) := fun j v hj => by
  rw [cell_of_row _ _ _ _ _ _ hg]
  have hl : j < 32 := (List.getElem?_eq_some_iff.1 hj).1
  rcases (by omega : j = 0 ∨ j = 1 ∨ j = 2 ∨ j = 3 ∨ j = 4 ∨ j = 5 ∨ j = 6 ∨ j = 7 ∨ j = 8 ∨ j = 9 ∨ j = 10 ∨ j = 11 ∨ j = 12 ∨ j = 13 ∨ j = 14 ∨ j = 15 ∨ j = 16 ∨ j = 17 ∨ j = 18 ∨ j = 19 ∨ j = 20 ∨ j = 21 ∨ j = 22 ∨ j = 23 ∨ j = 24 ∨ j = 25 ∨ j = 26 ∨ j = 27 ∨ j = 28 ∨ j = 29 ∨ j = 30 ∨ j = 31) with rfl | rfl | rfl | rfl | rfl | rfl | rfl | rfl | rfl | rfl | rfl | rfl | rfl | rfl | rfl | rfl | rfl | rfl | rfl | rfl | rfl | rfl | rfl | rfl | rfl | rfl | rfl | rfl | rfl | rfl | rfl | rfl
  · rw [← hj]; exact x.dir0 0 (by omega)
  · rw [← hj]; exact x.dir1 0 (by omega)
  · rw [← hj]; exact x.dir0 1 (by omega)
  · rw [← hj]; exact x.dir1 1 (by omega)
  · rw [← hj]; exact x.dir0 2 (by omega)
  · rw [← hj]; exact x.dir1 2 (by omega)
  · rw [← hj]; exact x.dir0 3 (by omega)
  · rw [← hj]; exact x.dir1 3 (by omega)
  · rw [← hj]; exact x.dir0 4 (by omega)
  · rw [← hj]; exact x.dir1 4 (by omega)
  · rw [← hj]; exact x.dir0 5 (by omega)
  · rw [← hj]; exact x.dir1 5 (by omega)
  · rw [← hj]; exact x.dir0 6 (by omega)
  · rw [← hj]; exact x.dir1 6 (by omega)
  · rw [← hj]; exact x.dir0 7 (by omega)
  · rw [← hj]; exact x.dir1 7 (by omega)
  · rw [← hj]; exact x.dir0 8 (by omega)
  · rw [← hj]; exact x.dir1 8 (by omega)
  · rw [← hj]; exact x.dir0 9 (by omega)
  · rw [← hj]; exact x.dir1 9 (by omega)
  · rw [← hj]; exact x.dir0 10 (by omega)
  · rw [← hj]; exact x.dir1 10 (by omega)
  · rw [← hj]; exact x.dir0 11 (by omega)
  · rw [← hj]; exact x.dir1 11 (by omega)
  · rw [← hj]; exact x.dir0 12 (by omega)
  · rw [← hj]; exact x.dir1 12 (by omega)
  · rw [← hj]; exact x.dir0 13 (by omega)
  · rw [← hj]; exact x.dir1 13 (by omega)
  · rw [← hj]; exact x.dir0 14 (by omega)
  · rw [← hj]; exact x.dir1 14 (by omega)
  · rw [← hj]; exact x.dir0 15 (by omega)
  · rw [← hj]; exact x.dir1 15 (by omega)

/-- The directories' numbers are some that may be. -/
def DirBd (h : HeadN) : Prop := ∀ i, i < 16 → 0 ≤ (h.dirs i).1 ∧ (h.dirs i).1 < 4294967296 ∧ 0 ≤ (h.dirs i).2 ∧ (h.dirs i).2 < 4294967296

theorem lits_pair (x y : Int) (d : Nat) (hx : (Lit.int .i64 x).wf = true) (hy : (Lit.int .i64 y).wf = true) : Try.prog.keyLits (d + 2) 28 [.int .i64 x, .int .i64 y] = some [.int .i64 x, .int .i64 y] := by
  have e : ∀ z : Int, (Lit.int .i64 z).wf = true → Try.prog.keyLits (d + 1) 3 [.int .i64 z] = some [.int .i64 z] := fun z hz => by
    unfold Program.keyLits
    rw [Try.underlying3]
    simp [hz]
  unfold Program.keyLits
  rw [Try.underlying28]
  have c28 : Try.prog.cellsOf 28 = 2 := by kernel_rfl
  have c3 : Try.prog.cellsOf 3 = 1 := by kernel_rfl
  simp [c28, c3, e x hx, e y hy]

theorem eq_dirs (h : HeadN) (hb : DirBd h) (W : World) : (Op.equalIn 10000 29 (.agg (dirL h).toArray) (.agg (dirL h).toArray)).run Try.prog W = .ok true W := by
  have hf : (Value.agg (dirL h).toArray).formed Try.prog 29 = true := by rfl
  have hw : ∀ z : Int, 0 ≤ z → z < 4294967296 → (Lit.int .i64 z).wf = true := fun z h0 h1 => by
    simp [Lit.wf, IntKind.min, IntKind.max, IntKind.bits, IntKind.signed]
    omega
  have hp : ∀ i, i < 16 → Try.prog.keyLits 9 28 [.int .i64 (h.dirs i).1, .int .i64 (h.dirs i).2] = some [.int .i64 (h.dirs i).1, .int .i64 (h.dirs i).2] := fun i hi => by
    obtain ⟨h1, h2, h3, h4⟩ := hb i hi
    exact lits_pair _ _ 7 (hw _ h1 h2) (hw _ h3 h4)
  have hk : ∃ la, Try.prog.keyLits 10 29 (Value.agg (dirL h).toArray).cells.toList = some la := by
    have c28 : Try.prog.cellsOf 28 = 2 := by kernel_rfl
    have c29 : Try.prog.cellsOf 29 = 32 := by kernel_rfl
    have hr : List.range 16 = [0, 1, 2, 3, 4, 5, 6, 7, 8, 9, 10, 11, 12, 13, 14, 15] := rfl
    have hc : (Value.agg (dirL h).toArray).cells.toList = dirL h := rfl
    rw [hc]
    unfold Program.keyLits
    rw [Try.underlying29]
    simp only [c29, c28, hr]
    rw [if_pos (by rfl)]
    simp only [List.mapM_cons, List.mapM_nil, dirL, List.drop_zero, List.drop_succ_cons, List.take_succ_cons, List.take_zero, Nat.zero_mul, Nat.one_mul, Nat.reduceMul]
    rw [hp 0 (by omega), hp 1 (by omega), hp 2 (by omega), hp 3 (by omega), hp 4 (by omega), hp 5 (by omega), hp 6 (by omega), hp 7 (by omega), hp 8 (by omega), hp 9 (by omega), hp 10 (by omega), hp 11 (by omega), hp 12 (by omega), hp 13 (by omega), hp 14 (by omega), hp 15 (by omega)]
    exact ⟨_, rfl⟩
  obtain ⟨la, hk⟩ := hk
  obtain ⟨r, hr, hi⟩ := run_equalIn_deep (P := Try.prog) 9990 10 29 (by kernel_rfl) W 10 10 _ _ la la hf hf hk hk
  rw [hi.2 rfl] at hr
  exact hr

theorem eq_sect (s : SectN) (W : World) : (Op.equalIn 10000 37 (.agg s.arr) (.agg s.arr)).run Try.prog W = .ok true W := by
  have hS : Try.prog.underlying 37 = some (.struct (Try.prog.fieldsOf 37)) := by kernel_rfl
  have hp : Try.prog.stoodInHeld 37 = false := by kernel_rfl
  have u3 := Try.underlying3
  have u9 := Try.underlying9
  rw [show (10000 : Nat) = 9999 + 1 from rfl, run_equalIn_agg W 9999 37 _ _ hS hp]
  simp only [Program.fieldsOf, Try.underlying37, SectN.arr]
  go_simp

theorem wpList_load_mid_g {P : Program} {ops : Array Oper} {rest : List Oper} {o : Oper} {a : Act} {w : World} {Q : Exit → Act → World → Prop} (hw : Region.wanted o (yielded ops a.tmps) = true) (ty : TypeId) (x : Operand) (ho : o.op = .load ty x)
    (b off : Nat) (hx : a.eval x = .pointer (some ⟨b, off, none⟩)) (cs : List Value) (d : TypeDesc) (hc : w.rangeAt b off cs)
    (hu : P.underlying ty = some d) (hd : d.isRow = true) (hi : (P.info? ty).map (·.size) = some cs.length)
    (h : wpList P ops Q rest (a.put o.dst (.agg cs.toArray)) w) : wpList P ops Q (o :: rest) a w :=
  wpList_step fun K hK => by
    rw [if_pos hw]
    exact wp_load_mid ty x ho b off hx cs d hc hu hd hi (hK _ _ h)

set_option maxRecDepth 100000 in
set_option maxHeartbeats 4000000 in
theorem same_any (cs cs' : Array Value) (h : HeadN) (sv sv' : Value) (l : List SectN) (w : World) (x : HeadV cs h sv) (y : HeadV cs' h sv') (hs : SectSl w sv l) (hs' : SectSl w sv' l) (hdb : DirBd h) :
    Calls Try.prog 16 #[.agg cs, .agg cs'] w fun e u => e = .returned (.bool true) ∧ Below w.heap.size w u := by
  obtain ⟨A, c, rfl, hsl, hl16⟩ := hs
  obtain ⟨A', c', rfl, hsl', _⟩ := hs'
  have HX := Lib.hid x
  have HY := Lib.hid y
  have HSL := Lib.hid hsl
  have HSL' := Lib.hid hsl'
  have a0 := x.c0
  have a1 := x.c1
  have a2 := x.c2
  have a3 := x.c3
  have a4 := x.c4
  have a5 := x.c5
  have a38 := x.c38
  have b0 := y.c0
  have b1 := y.c1
  have b2 := y.c2
  have b3 := y.c3
  have b4 := y.c4
  have b5 := y.c5
  have b38 := y.c38
  clear hsl hsl' x y
  go_enter Try.func16, Try.ntmps16
  have heq := eq_dirs h hdb
  have HG0 := Lib.hid (heap_alloc2_old w (.cells cs 32) (.cells cs' 32))
  have HG1 := Lib.hid (heap_alloc2_new w (.cells cs 32) (.cells cs' 32))
  go_wp2_with (first
    | (refine wpList_load_mid_g (by rfl) 29 _ rfl w.heap.size 6 rfl (dirL h) _ (HX.out.dirRow HG0.out) rfl rfl rfl ?_)
    | (refine wpList_load_mid_g (by rfl) 29 _ rfl (w.heap.size + 1) 6 rfl (dirL h) _ (HY.out.dirRow HG1.out) rfl rfl rfl ?_))
  have k38 := (cell_of_row _ _ 38 _ _ _ HG0.out).trans a38
  have k38' := (cell_of_row _ _ 38 _ _ _ HG1.out).trans b38
  have HB1 := Lib.hid (((Below.refl w.heap.size w).alloc (Nat.le_refl _) (.cells cs 32)).alloc (by simp) (.cells cs' 32))
  have hs0 : w.heap.size < ((w.alloc (.cells cs 32)).alloc (.cells cs' 32)).heap.size := by simp; omega
  have hs1 : w.heap.size + 1 < ((w.alloc (.cells cs 32)).alloc (.cells cs' 32)).heap.size := by simp
  clear heq a0 a1 a2 a3 a4 a5 a38 b0 b1 b2 b3 b4 b5 b38
  generalize (w.alloc (.cells cs 32)).alloc (.cells cs' 32) = w1 at *
  go_loopw [5] (fun o5 wr => ∃ i : Nat, i ≤ l.length ∧ o5 = .int .i64 i ∧ Below w1.heap.size w1 wr) (fun o5 _ => l.length - (intOf o5).toNat)
  case atStart => exact ⟨0, by omega, rfl, Below.refl _ _⟩
  case round =>
    obtain ⟨i, hi, rfl, hb⟩ := hrel
    have HB := Lib.hid hb
    have HBW : Hid (Below w.heap.size w wr) := Lib.hid (HB1.out.trans (hb.mono HB1.out.size))
    have j38 := (hb.cell (p := ⟨w.heap.size, 38, none⟩) hs0).trans k38
    have j38' := (hb.cell (p := ⟨w.heap.size + 1, 38, none⟩) hs1).trans k38'
    clear hb k38 k38' hs0 hs1
    by_cases hlt : i < l.length
    · have hlt' : (i : Int) < l.length := by omega
      obtain ⟨b, o, rfl⟩ : ∃ b o, A = some ⟨b, o, none⟩ := by
        rcases HSL.out with h | ⟨b, o, h, _⟩
        · rw [h] at hlt; simp at hlt
        · exact ⟨b, o, h⟩
      obtain ⟨b', o', rfl⟩ : ∃ b o, A' = some ⟨b, o, none⟩ := by
        rcases HSL'.out with h | ⟨b, o, h, _⟩
        · rw [h] at hlt; simp at hlt
        · exact ⟨b, o, h⟩
      obtain ⟨_, d0, d1, d2, d3, d4, d5⟩ := (HSL.out.below HBW.out).at6o i hlt
      obtain ⟨_, e0, e1, e2, e3, e4, e5⟩ := (HSL'.out.below HBW.out).at6o i hlt
      have hes := eq_sect l[i]
      generalize l[i] = s at *
      obtain ⟨nm, v, rva, raw, spot, ch⟩ := s
      simp only [SectN.arr] at d0 d1 d2 d3 d4 d5 e0 e1 e2 e3 e4 e5 hes
      go_wp2_with fail
      go_region
      go_wp2_with fail
      go_roundw
      case rel => exact ⟨i + 1, by omega, by go_num, HB.out.drew⟩
      case measure => simp [intOf]; omega
    · obtain rfl : i = l.length := by omega
      go_wp2_with fail
      go_ret
      exact ⟨rfl, HBW.out⟩

/-- The document's Int, where the bytes are there. -/
theorem rint_yes (S : ByteArray) (o n : Nat) (w : World) (hs : S.size ≤ 1000000) (hn : n ≤ 4) (h : o + n ≤ S.size) :
    Calls Try.prog 31 #[.string S, .int .i64 o, .int .i64 n] w fun e w' => e = .returned (.int .i64 (rdF (PlainAid.bt S) o n)) ∧ w = w' := by
  have HR := Lib.hid (rnum_yes S o n w (by omega) (by omega) h)
  have hb := rdF_bd (PlainAid.bt S) (bt255 S) n o
  have hp : (256 : Int) ^ n ≤ 4294967296 := by
    rcases (by omega : n = 0 ∨ n = 1 ∨ n = 2 ∨ n = 3 ∨ n = 4) with rfl | rfl | rfl | rfl | rfl <;> decide
  have h1 : rdF (PlainAid.bt S) o n < 4294967296 := by omega
  have h0 := hb.1
  clear hb hp
  generalize rdF (PlainAid.bt S) o n = x at *
  go_enter Try.func31, Try.ntmps31
  go_wp2_with (go_fit HR.out; rintro e u ⟨rfl, rfl⟩)
  go_ret
  exact ⟨rfl, rfl⟩
end Go.Proofs.Ytlgdaljbajebhaa
