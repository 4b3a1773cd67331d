import Derived.Test.YtplgdpjbkdagfaaGreatZHdrD
import Derived.Test.YtplgdpjbkdagfaaGreatAwake6
import Derived.Test.YtplgdpjbkdagfaaGreatRef1
import Derived.DeepKeys
import Derived.Test.YtplgdpjbkdagfaaGreatZMd
import Derived.Deep.DeepFit
namespace Go.Proofs.YtplgdpjbkdagfaaGreat
set_option maxRecDepth 100000
open Go.ChangeShapes Go.WideShapes Go.ChangeAt Go.RowKit
set_option linter.unusedVariables false
set_option linter.unusedSimpArgs false
def SectSl (w : World) (sv : Value) (l : List SectN) : Prop := ∃ A c, sv = .slice A l.length c ∧ SlT SectN.cells 6 w A l ∧ l.length ≤ 16
def dirL (h : HeadN) : List Value := [.int .i64 (h.dirs 0).1, .int .i64 (h.dirs 0).2, .int .i64 (h.dirs 1).1, .int .i64 (h.dirs 1).2, .int .i64 (h.dirs 2).1, .int .i64 (h.dirs 2).2, .int .i64 (h.dirs 3).1, .int .i64 (h.dirs 3).2, .int .i64 (h.dirs 4).1, .int .i64 (h.dirs 4).2, .int .i64 (h.dirs 5).1, .int .i64 (h.dirs 5).2, .int .i64 (h.dirs 6).1, .int .i64 (h.dirs 6).2, .int .i64 (h.dirs 7).1, .int .i64 (h.dirs 7).2, .int .i64 (h.dirs 8).1, .int .i64 (h.dirs 8).2, .int .i64 (h.dirs 9).1, .int .i64 (h.dirs 9).2, .int .i64 (h.dirs 10).1, .int .i64 (h.dirs 10).2, .int .i64 (h.dirs 11).1, .int .i64 (h.dirs 11).2, .int .i64 (h.dirs 12).1, .int .i64 (h.dirs 12).2, .int .i64 (h.dirs 13).1, .int .i64 (h.dirs 13).2, .int .i64 (h.dirs 14).1, .int .i64 (h.dirs 14).2, .int .i64 (h.dirs 15).1, .int .i64 (h.dirs 15).2]
theorem HeadV.dirRow {cs : Array Value} {h : HeadN} {sv : Value} (x : HeadV cs h sv) {w : World} {g : Nat} (hg : w.heap[g]? = some (.cells cs 41 (0, 0))) : w.rangeAt g 6 (dirL h) := fun j v hj => by
  rw [cell_of_row _ _ _ _ _ _ hg]
  have hl : j < 32 := (List.getElem?_eq_some_iff.1 hj).1
  rcases (by omega : j = 0 ∨ j = 1 ∨ j = 2 ∨ j = 3 ∨ j = 4 ∨ j = 5 ∨ j = 6 ∨ j = 7 ∨ j = 8 ∨ j = 9 ∨ j = 10 ∨ j = 11 ∨ j = 12 ∨ j = 13 ∨ j = 14 ∨ j = 15 ∨ j = 16 ∨ j = 17 ∨ j = 18 ∨ j = 19 ∨ j = 20 ∨ j = 21 ∨ j = 22 ∨ j = 23 ∨ j = 24 ∨ j = 25 ∨ j = 26 ∨ j = 27 ∨ j = 28 ∨ j = 29 ∨ j = 30 ∨ j = 31) with rfl | rfl | rfl | rfl | rfl | rfl | rfl | rfl | rfl | rfl | rfl | rfl | rfl | rfl | rfl | rfl | rfl | rfl | rfl | rfl | rfl | rfl | rfl | rfl | rfl | rfl | rfl | rfl | rfl | rfl | rfl | rfl
  · rw [← hj]; exact x.dir0 0 (by omega)
  · rw [← hj]; exact x.dir1 0 (by omega)
  · rw [← hj]; exact x.dir0 1 (by omega)
  · rw [← hj]; exact x.dir1 1 (by omega)
  · rw [← hj]; exact x.dir0 2 (by omega)
  · rw [← hj]; exact x.dir1 2 (by omega)
  · rw [← hj]; exact x.dir0 3 (by omega)
  · rw [← hj]; exact x.dir1 3 (by omega)
  · rw [← hj]; exact x.dir0 4 (by omega)
  · rw [← hj]; exact x.dir1 4 (by omega)
  · rw [← hj]; exact x.dir0 5 (by omega)
  · rw [← hj]; exact x.dir1 5 (by omega)
  · rw [← hj]; exact x.dir0 6 (by omega)
  · rw [← hj]; exact x.dir1 6 (by omega)
  · rw [← hj]; exact x.dir0 7 (by omega)
  · rw [← hj]; exact x.dir1 7 (by omega)
  · rw [← hj]; exact x.dir0 8 (by omega)
  · rw [← hj]; exact x.dir1 8 (by omega)
  · rw [← hj]; exact x.dir0 9 (by omega)
  · rw [← hj]; exact x.dir1 9 (by omega)
  · rw [← hj]; exact x.dir0 10 (by omega)
  · rw [← hj]; exact x.dir1 10 (by omega)
  · rw [← hj]; exact x.dir0 11 (by omega)
  · rw [← hj]; exact x.dir1 11 (by omega)
  · rw [← hj]; exact x.dir0 12 (by omega)
  · rw [← hj]; exact x.dir1 12 (by omega)
  · rw [← hj]; exact x.dir0 13 (by omega)
  · rw [← hj]; exact x.dir1 13 (by omega)
  · rw [← hj]; exact x.dir0 14 (by omega)
  · rw [← hj]; exact x.dir1 14 (by omega)
  · rw [← hj]; exact x.dir0 15 (by omega)
  · rw [← hj]; exact x.dir1 15 (by omega)
def DirBd (h : HeadN) : Prop := ∀ i, i < 16 → 0 ≤ (h.dirs i).1 ∧ (h.dirs i).1 < 4294967296 ∧ 0 ≤ (h.dirs i).2 ∧ (h.dirs i).2 < 4294967296
theorem lits_pair (x y : Int) (d : Nat) (hx : (Lit.int .i64 x).wf = true) (hy : (Lit.int .i64 y).wf = true) : Tryz.prog.keyLits (d + 2) 37 [.int .i64 x, .int .i64 y] = some [.int .i64 x, .int .i64 y] := by
  have e : ∀ z : Int, (Lit.int .i64 z).wf = true → Tryz.prog.keyLits (d + 1) 3 [.int .i64 z] = some [.int .i64 z] := fun z hz => by
    unfold Program.keyLits
    rw [Tryz.underlying3]
    simp [hz]
  unfold Program.keyLits
  rw [Tryz.underlying37]
  have c28 : Tryz.prog.cellsOf 37 = 2 := by kernel_rfl
  have c3 : Tryz.prog.cellsOf 3 = 1 := by kernel_rfl
  simp [c28, c3, e x hx, e y hy]
theorem eq_dirs (h : HeadN) (hb : DirBd h) (W : World) : (Op.equalIn 10000 38 (.agg (dirL h).toArray) (.agg (dirL h).toArray)).run Tryz.prog W = .ok true W := by
  have hf : (Value.agg (dirL h).toArray).formed Tryz.prog 38 = true := by rfl
  have hw : ∀ z : Int, 0 ≤ z → z < 4294967296 → (Lit.int .i64 z).wf = true := fun z h0 h1 => by
    simp [Lit.wf, IntKind.min, IntKind.max, IntKind.bits, IntKind.signed]
    omega
  have hp : ∀ i, i < 16 → Tryz.prog.keyLits 9 37 [.int .i64 (h.dirs i).1, .int .i64 (h.dirs i).2] = some [.int .i64 (h.dirs i).1, .int .i64 (h.dirs i).2] := fun i hi => by
    obtain ⟨h1, h2, h3, h4⟩ := hb i hi
    exact lits_pair _ _ 7 (hw _ h1 h2) (hw _ h3 h4)
  have hk : ∃ la, Tryz.prog.keyLits 10 38 (Value.agg (dirL h).toArray).cells.toList = some la := by
    have c28 : Tryz.prog.cellsOf 37 = 2 := by kernel_rfl
    have c29 : Tryz.prog.cellsOf 38 = 32 := by kernel_rfl
    have hr : List.range 16 = [0, 1, 2, 3, 4, 5, 6, 7, 8, 9, 10, 11, 12, 13, 14, 15] := rfl
    have hc : (Value.agg (dirL h).toArray).cells.toList = dirL h := rfl
    rw [hc]
    unfold Program.keyLits
    rw [Tryz.underlying38]
    simp only [c29, c28, hr]
    rw [if_pos (by rfl)]
    simp only [List.mapM_cons, List.mapM_nil, dirL, List.drop_zero, List.drop_succ_cons, List.take_succ_cons, List.take_zero, Nat.zero_mul, Nat.one_mul, Nat.reduceMul]
    rw [hp 0 (by omega), hp 1 (by omega), hp 2 (by omega), hp 3 (by omega), hp 4 (by omega), hp 5 (by omega), hp 6 (by omega), hp 7 (by omega), hp 8 (by omega), hp 9 (by omega), hp 10 (by omega), hp 11 (by omega), hp 12 (by omega), hp 13 (by omega), hp 14 (by omega), hp 15 (by omega)]
    exact ⟨_, rfl⟩
  obtain ⟨la, hk⟩ := hk
  obtain ⟨r, hr, hi⟩ := run_equalIn_deep (P := Tryz.prog) 9990 10 38 (by kernel_rfl) W 10 10 _ _ la la hf hf hk hk
  rw [hi.2 rfl] at hr
  exact hr
theorem wpList_load_mid_g {P : Program} {ops : Array Oper} {rest : List Oper} {o : Oper} {a : Act} {w : World} {Q : Exit → Act → World → Prop} (hw : Region.wanted o (yielded ops a.tmps) = true) (ty : TypeId) (x : Operand) (ho : o.op = .load ty x)
    (b off : Nat) (hx : a.eval x = .pointer (some ⟨b, off, none⟩)) (cs : List Value) (d : TypeDesc) (hc : w.rangeAt b off cs)
    (hu : P.underlying ty = some d) (hd : d.isRow = true) (hi : (P.info? ty).map (·.size) = some cs.length)
    (h : wpList P ops Q rest (a.put o.dst (.agg cs.toArray)) w) : wpList P ops Q (o :: rest) a w :=
  wpList_step fun K hK => by
    rw [if_pos hw]
    exact wp_load_mid ty x ho b off hx cs d hc hu hd hi (hK _ _ h)
theorem rint_yes (S : ByteArray) (o n : Nat) (w : World) (hs : S.size ≤ 1000000) (hn : n ≤ 4) (h : o + n ≤ S.size) :
    Calls Tryz.prog 72 #[.string S, .int .i64 o, .int .i64 n] w fun e w' => e = .returned (.int .i64 (rdF (PlainAid.bt S) o n)) ∧ w = w' := by
  have HR := Lib.hid (rnum_yes S o n w (by omega) (by omega) h)
  have hb := rdF_bd (PlainAid.bt S) (bt255 S) n o
  have hp : (256 : Int) ^ n ≤ 4294967296 := by
    rcases (by omega : n = 0 ∨ n = 1 ∨ n = 2 ∨ n = 3 ∨ n = 4) with rfl | rfl | rfl | rfl | rfl <;> decide
  have h1 : rdF (PlainAid.bt S) o n < 4294967296 := by omega
  have h0 := hb.1
  clear hb hp
  generalize rdF (PlainAid.bt S) o n = x at *
  go_enter Tryz.func72, Tryz.ntmps72
  go_wp2_with (go_fit HR.out; rintro e u ⟨rfl, rfl⟩)
  go_ret
  exact ⟨rfl, rfl⟩
theorem text_eq {f : Nat → Int} (hb : Bytes255 f) (xs : List UInt8) (o : Nat) : ((strF f o xs.length).toList == xs) = true ↔ ∀ i (h : i < xs.length), f (o + i) = (xs[i].toNat : Int) := by
  have hl : (strF f o xs.length).toList = Lib.bytesOf ((List.range xs.length).map fun i => f (o + i)) := Lib.strOfNums_toList _
  rw [hl, beq_iff_eq]
  constructor
  · intro h i hi
    have h2 := congrArg (fun z => z[i]?) h
    simp only [Lib.bytesOf, List.getElem?_map, List.getElem?_range hi, Option.map_some, List.getElem?_eq_getElem hi, Option.some.injEq] at h2
    have h3 := congrArg UInt8.toNat h2
    have := hb (o + i)
    simp at h3
    omega
  · intro h
    apply List.ext_getElem?
    intro i
    rcases Nat.lt_or_ge i xs.length with hi | hi
    · simp only [Lib.bytesOf, List.getElem?_map, List.getElem?_range hi, Option.map_some, List.getElem?_eq_getElem hi, Option.some.injEq]
      rw [h i hi]
      simp
    · rw [List.getElem?_eq_none hi, List.getElem?_eq_none]
      simpa [Lib.bytesOf] using hi
theorem text_mz (S : ByteArray) (h : 2 ≤ S.size) : ((S.extract 0 2).toList == [77, 90]) = true ↔ PlainAid.bt S 0 = 77 ∧ PlainAid.bt S 1 = 90 := by
  have e := extract_bt S 0 2 (by omega)
  rw [Nat.zero_add] at e
  rw [e]
  have k := text_eq (bt255 S) [77, 90] 0
  refine k.trans ⟨fun h => ⟨h 0 (by simp), h 1 (by simp)⟩, fun h i hi => ?_⟩
  have hi' : i < 2 := hi
  rcases (by omega : i = 0 ∨ i = 1) with rfl | rfl
  · exact h.1
  · exact h.2
theorem text_pe (S : ByteArray) (p : Nat) (h : p + 4 ≤ S.size) : ((S.extract p (p + 4)).toList == [80, 69, 0, 0]) = true ↔ PlainAid.bt S p = 80 ∧ PlainAid.bt S (p + 1) = 69 ∧ PlainAid.bt S (p + 2) = 0 ∧ PlainAid.bt S (p + 3) = 0 := by
  rw [extract_bt S p 4 h]
  have k := text_eq (bt255 S) [80, 69, 0, 0] p
  refine k.trans ⟨fun h => ⟨h 0 (by simp), h 1 (by simp), h 2 (by simp), h 3 (by simp)⟩, fun h i hi => ?_⟩
  have hi' : i < 4 := hi
  rcases (by omega : i = 0 ∨ i = 1 ∨ i = 2 ∨ i = 3) with rfl | rfl | rfl | rfl
  · exact h.1
  · exact h.2.1
  · exact h.2.2.1
  · exact h.2.2.2
def HeadQ (w : World) (n : Nat) (f : Nat → Int) (v : Value) : Prop :=
  ∃ cs, v = .tuple #[.agg cs, .int .i64 (headE n f)] ∧
    ((headE n f ≠ 0 ∧ HeadV cs noHead (.slice none 0 0)) ∨ (headE n f = 0 ∧ ∃ sv, HeadV cs (readS f (headP n f)) sv ∧ SectSl w sv (sectsS f (headP n f + 264) (headK n f))))
theorem built_head6 (b s c e z h : Int) : Tryz.prog.built 41 [(0, .int .u64 b), (1, .int .i64 s), (2, .int .i64 c), (3, .int .i64 e), (4, .int .i64 z), (5, .int .i64 h)] = some (headC b s c e z h) := by
  kernel_rfl
theorem HeadPart.start6 (h : HeadN) : HeadPart (headC h.base h.stamp h.chars h.entry h.size h.headers) h 0 :=
  ⟨rfl, rfl, rfl, rfl, rfl, rfl, rfl, fun j hj => by omega, fun j hj => by omega, rfl, by simp [headC, Value.oneCell']⟩
structure HeadAt2 (w u : World) (g : Nat) (h : HeadN) (i : Nat) : Prop where
  bel : Below w.heap.size w u
  le : w.heap.size + 1 < g
  z0 : u.heap[w.heap.size]? = some (.cells (headC 0 0 0 0 0 0) 41 (0, 0))
  z1 : u.heap[w.heap.size + 1]? = some (.cells (headC 0 0 0 0 0 0) 41 (0, 0))
  cs : ∃ cs, u.heap[g]? = some (.cells cs 41 (0, 0)) ∧ HeadPart cs h i
theorem HeadAt2.next {w u : World} {g : Nat} {h : HeadN} {i : Nat} (x : HeadAt2 w u g h i) (hi : i < 16) (v1 v2 : Int) (e1 : v1 = (h.dirs i).1) (e2 : v2 = (h.dirs i).2) :
    HeadAt2 w ((u.setCell ⟨g, 6 + i * 2, none⟩ (.int .i64 v1)).setCell ⟨g, 6 + i * 2 + 1, none⟩ (.int .i64 v2)) g h (i + 1) := by
  subst e1 e2
  rw [Nat.mul_comm i 2]
  obtain ⟨cs, hc, hp⟩ := x.cs
  have hl := x.le
  refine ⟨(x.bel.setCell (show w.heap.size ≤ g by omega) _).setCell (show w.heap.size ≤ g by omega) _, hl, ?_, ?_, ⟨_, heap_setCell_same _ _ _ _ _ _ (heap_setCell_same _ _ _ _ _ _ hc), hp.next hi⟩⟩
  · rw [heap_setCell_other _ _ _ _ (show w.heap.size ≠ g by omega), heap_setCell_other _ _ _ _ (show w.heap.size ≠ g by omega)]
    exact x.z0
  · rw [heap_setCell_other _ _ _ _ (show w.heap.size + 1 ≠ g by omega), heap_setCell_other _ _ _ _ (show w.heap.size + 1 ≠ g by omega)]
    exact x.z1
structure SectW (w u : World) (g : Nat) (h : HeadN) (l : List SectN) : Prop where
  bel : Below w.heap.size w u
  le : w.heap.size + 1 < g
  z0 : u.heap[w.heap.size]? = some (.cells (headC 0 0 0 0 0 0) 41 (0, 0))
  z1 : u.heap[w.heap.size + 1]? = some (.cells (headC 0 0 0 0 0 0) 41 (0, 0))
  cs : ∃ cs A c, u.heap[g]? = some (.cells cs 41 (0, 0)) ∧ HeadV cs h (.slice A l.length c) ∧ OwnT SectN.cells 6 u (g + 1) 72 (.slice A l.length c) l
theorem HeadAt2.all {w u : World} {g : Nat} {h : HeadN} (x : HeadAt2 w u g h 16) : SectW w u g h [] := by
  obtain ⟨cs, hc, hp⟩ := x.cs
  exact ⟨x.bel, x.le, x.z0, x.z1, cs, none, 0, hc, hp.all, OwnT.nil _ _ _⟩
theorem SectW.below {w u u' : World} {g : Nat} {h : HeadN} {l : List SectN} (x : SectW w u g h l) (hb : Below u.heap.size u u') : SectW w u' g h l := by
  obtain ⟨cs, A, c, hc, hv, ho⟩ := x.cs
  exact ⟨x.bel.trans (hb.mono x.bel.size), x.le, (hb.block _ (Array.getElem?_eq_some_iff.1 x.z0).1).trans x.z0, (hb.block _ (Array.getElem?_eq_some_iff.1 x.z1).1).trans x.z1,
    cs, A, c, (hb.block _ (Array.getElem?_eq_some_iff.1 hc).1).trans hc, hv, ho.below hb⟩
theorem SectW.add {w u u' : World} {g : Nat} {h : HeadN} {l : List SectN} {s : SectN} {A : Option Addr} {c g' cap : Nat} {cs : Array Value} (x : SectW w u g h l) (hc : u.heap[g]? = some (.cells cs 41 (0, 0))) (hv : HeadV cs h (.slice A l.length c))
    (ho : OwnT SectN.cells 6 u (g + 1) 72 (.slice A l.length c) l)
    (hg : u.grownBy u' (Value.ownBlock (.slice A l.length c))) (ho' : OwnT SectN.cells 6 u' (g + 1) 72 (.slice (some ⟨g', 0, none⟩) (l.length + 1) cap) (l ++ [s])) :
    SectW w (u'.setCell ⟨g, 38, none⟩ (.slice (some ⟨g', 0, none⟩) (l.length + 1) cap)) g h (l ++ [s]) := by
  have hl := x.le
  have hlt := (Array.getElem?_eq_some_iff.1 hc).1
  have hbel : Below (g + 1) u u' := ho.grew (Below.refl _ _) (Nat.le_refl _) (by omega) hg
  have hb := hbel.mono (show w.heap.size ≤ g + 1 by omega)
  have k := ho'.lt g' rfl
  refine ⟨(x.bel.trans hb).setCell (show w.heap.size ≤ g by omega) _, hl, ?_, ?_, cs.setIfInBounds 38 (.slice (some ⟨g', 0, none⟩) (l.length + 1) cap), some ⟨g', 0, none⟩, cap, heap_setCell_same _ _ _ _ _ _ ((hbel.block _ (by omega)).trans hc), ?_, ?_⟩
  · rw [heap_setCell_other _ _ _ _ (show w.heap.size ≠ g by omega)]
    exact (hbel.block _ (by omega)).trans x.z0
  · rw [heap_setCell_other _ _ _ _ (show w.heap.size + 1 ≠ g by omega)]
    exact (hbel.block _ (by omega)).trans x.z1
  · rw [List.length_append]; exact hv.sects _
  · rw [List.length_append]
    exact ho'.of_block (fun q hq => heap_setCell_other _ _ _ _ (by have := (ho'.lt q hq).1; show q ≠ g; omega))
theorem SectW.app {w u u' : World} {g n : Nat} {h : HeadN} {l : List SectN} {s : SectN} {A : Option Addr} {c g' cap : Nat} {cs : Array Value} (x : SectW w u g h l) (hc : u.heap[g]? = some (.cells cs 41 (0, 0))) (hv : HeadV cs h (.slice A n c)) (hn : l.length = n)
    (ho : OwnT SectN.cells 6 u (g + 1) 72 (.slice A n c) l)
    (hg : u.grownBy u' (Value.ownBlock (.slice A n c))) (ho' : OwnT SectN.cells 6 u' (g + 1) 72 (.slice (some ⟨g', 0, none⟩) (l.length + 1) cap) (l ++ [s])) :
    u'.cell? ⟨g, 38, none⟩ = some (.slice A n c) ∧ u'.frozen? ⟨g, 38, none⟩ = false ∧ SectW w (u'.setCell ⟨g, 38, none⟩ (.slice (some ⟨g', 0, none⟩) (l.length + 1) cap)) g h (l ++ [s]) := by
  subst hn
  have hlt := (Array.getElem?_eq_some_iff.1 hc).1
  have hbel : Below (g + 1) u u' := ho.grew (Below.refl _ _) (Nat.le_refl _) (by omega) hg
  have hg5 := (hbel.block g (by omega)).trans hc
  exact ⟨(cell_of_row _ _ 38 _ _ _ hg5).trans hv.c38, frozen_of_row _ _ 38 _ _ hg5, x.add hc hv ho hg ho'⟩
theorem infoSect : (Tryz.prog.info? 72).map (fun i => (i.zero, i.size, i.bytes)) = some (some (.agg #[.string ⟨#[]⟩, .int .i64 0, .int .i64 0, .int .i64 0, .int .i64 0, .int .i64 0]), 6, 56) := by kernel_rfl
theorem sectN_one (s : SectN) : ∀ u ∈ s.cells, u.oneCell' = true := by
  intro u hu
  simp [SectN.cells] at hu
  rcases hu with rfl | rfl | rfl | rfl | rfl | rfl <;> rfl
theorem row_cells {w : World} {g : Nat} {s : SectN} {t : TypeId} {fr : Nat × Nat} (h : w.heap[g]? = some (.cells s.arr t fr)) : ∀ j u, s.cells[j]? = some u → w.cell? ⟨g, j, none⟩ = some u := fun j u hu => by
  rw [cell_of_row _ _ _ _ _ _ h]
  rw [← SectN.arr_list, Array.getElem?_toList] at hu
  exact hu
theorem firstZ_ne (f : Nat → Int) : ∀ (n o i : Nat), i < firstZ f o n → f (o + i) ≠ 0
  | 0, _, i, h => by simp [firstZ] at h
  | n + 1, o, i, h => by
    unfold firstZ at h
    by_cases e : f o = 0
    · rw [if_pos e] at h; omega
    · rw [if_neg e] at h
      rcases i with _ | i
      · simpa using e
      · have := firstZ_ne f n (o + 1) i (by omega)
        rwa [show o + 1 + i = o + (i + 1) from by omega] at this
theorem firstZ_at (f : Nat → Int) : ∀ (n o : Nat), firstZ f o n < n → f (o + firstZ f o n) = 0
  | 0, _, h => by omega
  | n + 1, o, h => by
    unfold firstZ at h ⊢
    by_cases e : f o = 0
    · rw [if_pos e]; simpa using e
    · rw [if_neg e] at h ⊢
      have := firstZ_at f n (o + 1) (by omega)
      rwa [show o + 1 + firstZ f (o + 1) n = o + (firstZ f (o + 1) n + 1) from by omega] at this
theorem bt_extractH (S : ByteArray) (o n i : Nat) (h : o + n ≤ S.size) (hi : i < n) : PlainAid.bt (S.extract o (o + n)) i = PlainAid.bt S (o + i) := by
  rw [extract_bt S o n h, bt_strF (bt255 S) hi]
theorem size_extract8 (S : ByteArray) (o : Nat) (h : o + 8 ≤ S.size) : (S.extract o (o + 8)).size = 8 := by
  rw [extract_bt S o 8 h, strF_size]
theorem hrname_yes (S : ByteArray) (o : Nat) (w : World) (h : o + 8 ≤ S.size) (hf : firstZ (PlainAid.bt S) o 8 < 8) :
    Calls Tryz.prog 75 #[.string (S.extract o (o + 8)), .int .i64 0, .int .i64 8] w fun e w' => e = .returned (.tuple #[.string (nameS (PlainAid.bt S) o), .bool true]) ∧ w = w' := by
  have hz := size_extract8 S o h
  have k := rtext_yes (S.extract o (o + 8)) 0 (firstZ (PlainAid.bt S) o 8) 8 w (by omega) (by omega) (by omega) (by rw [Nat.zero_add, bt_extractH S o 8 _ h hf]; exact firstZ_at _ _ _ hf) (fun i hi => by rw [Nat.zero_add, bt_extractH S o 8 _ h (by omega)]; exact firstZ_ne _ _ _ _ hi)
  have e : strF (PlainAid.bt (S.extract o (o + 8))) 0 (firstZ (PlainAid.bt S) o 8) = nameS (PlainAid.bt S) o := strF_congr (fun i hi => by rw [Nat.zero_add, bt_extractH S o 8 _ h (by omega)])
  rw [e] at k
  exact k
theorem hrname_no (S : ByteArray) (o : Nat) (w : World) (h : o + 8 ≤ S.size) (hf : ¬ firstZ (PlainAid.bt S) o 8 < 8) :
    Calls Tryz.prog 75 #[.string (S.extract o (o + 8)), .int .i64 0, .int .i64 8] w fun e w' => e = .returned (.tuple #[.string ByteArray.empty, .bool false]) ∧ w = w' := by
  have hz := size_extract8 S o h
  exact rtext_no (S.extract o (o + 8)) 0 8 w (by omega) (by omega) (fun i hi _ => by rw [Nat.zero_add, bt_extractH S o 8 _ h (by omega)]; exact firstZ_ne _ 8 _ _ (by omega))
theorem rname_all (S : ByteArray) (o : Nat) (h : o + 8 ≤ S.size) (hf : ¬ firstZ (PlainAid.bt S) o 8 < 8) : S.extract o (o + 8) = nameS (PlainAid.bt S) o := by
  have := firstZ_le (PlainAid.bt S) o 8
  rw [extract_bt S o 8 h]
  unfold nameS
  rw [show firstZ (PlainAid.bt S) o 8 = 8 by omega]
theorem toList_inj' {S T : ByteArray} (h : S.toList = T.toList) : S = T := by
  rw [← strF_bt S, ← strF_bt T] at h ⊢
  unfold strF at h ⊢
  rw [Lib.strOfNums_toList, Lib.strOfNums_toList] at h
  apply ByteArray.ext
  apply Array.ext'
  exact h
theorem toList_eq {S T : ByteArray} : S.toList = T.toList ↔ S = T := ⟨toList_inj', fun h => by rw [h]⟩
theorem eqs_Sect (x0 y0 : ByteArray) (x1 y1 : Int) (x2 y2 : Int) (x3 y3 : Int) (x4 y4 : Int) (x5 y5 : Int) : ∃ r : Bool, (∀ W, (Op.equalIn 10000 72 (.agg #[.string x0, .int .i64 x1, .int .i64 x2, .int .i64 x3, .int .i64 x4, .int .i64 x5]) (.agg #[.string y0, .int .i64 y1, .int .i64 y2, .int .i64 y3, .int .i64 y4, .int .i64 y5])).run Tryz.prog W = .ok r W) ∧ (r = true ↔ x0 = y0 ∧ x1 = y1 ∧ x2 = y2 ∧ x3 = y3 ∧ x4 = y4 ∧ x5 = y5) := by
  have hS : Tryz.prog.underlying 72 = some (.struct (Tryz.prog.fieldsOf 72)) := by kernel_rfl
  have hp : Tryz.prog.stoodInHeld 72 = false := by kernel_rfl
  have u3 := Tryz.underlying3
  have u9 := Tryz.underlying9
  have u4 := Tryz.underlying4
  refine ⟨(x0.toList == y0.toList) && (x1 == y1) && (x2 == y2) && (x3 == y3) && (x4 == y4) && (x5 == y5), fun W => ?_, ?_⟩
  · rw [show (10000 : Nat) = 9999 + 1 from rfl, run_equalIn_agg W 9999 72 _ _ hS hp]
    simp only [Program.fieldsOf, Tryz.underlying72]
    go_simp
    repeat' split
    all_goals simp_all
  · simp only [Bool.and_eq_true, beq_iff_eq, toList_eq, and_assoc]
set_option maxHeartbeats 2000000 in
theorem equal_Sect {α : Type} (C : α → List Value) (f0 : α → ByteArray) (f1 : α → Int) (f2 : α → Int) (f3 : α → Int) (f4 : α → Int) (f5 : α → Int) (hC : ∀ x, C x = [.string (f0 x), .int .i64 (f1 x), .int .i64 (f2 x), .int .i64 (f3 x), .int .i64 (f4 x), .int .i64 (f5 x)]) (A A' : Option Addr) (l l2 : List α) (c c' : Nat) (w : World) (h : SlT C 6 w A l) (h' : SlT C 6 w A' l2) (hn : l.length ≤ 1000000) (hn' : l2.length ≤ 1000000) (b : Bool) (hb : b = true ↔ l.map C = l2.map C) :
    Calls Tryz.prog 99 #[.slice A l.length c, .slice A' l2.length c'] w fun e u => e = .returned (.bool b) ∧ Below w.heap.size w u := by
  have HS := Lib.hid h
  have HS' := Lib.hid h'
  have HC := Lib.hid hC
  have HN := Lib.hid (And.intro hn hn')
  have HBB := Lib.hid hb
  clear h h' hC hb
  by_cases hl : l.length = l2.length
  · have HL := Lib.hid hl
    have e0 : ((l.length : Int) != (l2.length : Int)) = false := by simp [hl]
    have HN1 := Lib.hid hn
    clear hn hn' hl
    go_enter Tryz.func99, Tryz.ntmps99
    go_wp2_with fail
    go_loopw [13] (fun v13 wr => ∃ i : Nat, i ≤ l.length ∧ v13 = .int .i64 i ∧ (∀ (j : Nat) (h1 : j < l.length) (h2 : j < l2.length), j < i → C l[j] = C l2[j]) ∧ Below w.heap.size w wr) (fun v13 _ => l.length - (intOf v13).toNat)
    case atStart => exact ⟨0, by omega, rfl, fun j _ _ h => by omega, Below.refl _ _⟩
    case round =>
      obtain ⟨i, hi, rfl, hall, hbw⟩ := hrel
      have HALL := Lib.hid hall
      have HB := Lib.hid hbw
      clear hall hbw
      by_cases hlt : i < l.length
      · have hlt' : (i : Int) < l.length := by omega
        have hlt2 : i < l2.length := by have := HL.out; omega
        have hlt2' : (i : Int) < l2.length := by omega
        obtain ⟨bb, o, rfl, _, hc⟩ : ∃ b o, A = some ⟨b, o, none⟩ ∧ b < wr.heap.size ∧ ∀ (i : Nat) (hi : i < l.length) (j : Nat) (v : Value), (C l[i])[j]? = some v → wr.cell? ⟨b, o + (i * 6 + j), none⟩ = some v := by
          rcases HS.out.below HB.out with h | h
          · rw [h] at hlt; simp at hlt
          · exact h
        obtain ⟨bb', o', rfl, _, hc'⟩ : ∃ b o, A' = some ⟨b, o, none⟩ ∧ b < wr.heap.size ∧ ∀ (i : Nat) (hi : i < l2.length) (j : Nat) (v : Value), (C l2[i])[j]? = some v → wr.cell? ⟨b, o + (i * 6 + j), none⟩ = some v := by
          rcases HS'.out.below HB.out with h | h
          · rw [h] at hlt2; simp at hlt2
          · exact h
        have hC := HC.out
        have d0 := hc i hlt 0 (.string (f0 l[i])) (by rw [hC]; rfl)
        have d1 := hc i hlt 1 (.int .i64 (f1 l[i])) (by rw [hC]; rfl)
        have d2 := hc i hlt 2 (.int .i64 (f2 l[i])) (by rw [hC]; rfl)
        have d3 := hc i hlt 3 (.int .i64 (f3 l[i])) (by rw [hC]; rfl)
        have d4 := hc i hlt 4 (.int .i64 (f4 l[i])) (by rw [hC]; rfl)
        have d5 := hc i hlt 5 (.int .i64 (f5 l[i])) (by rw [hC]; rfl)
        have e0 := hc' i hlt2 0 (.string (f0 l2[i])) (by rw [hC]; rfl)
        have e1 := hc' i hlt2 1 (.int .i64 (f1 l2[i])) (by rw [hC]; rfl)
        have e2 := hc' i hlt2 2 (.int .i64 (f2 l2[i])) (by rw [hC]; rfl)
        have e3 := hc' i hlt2 3 (.int .i64 (f3 l2[i])) (by rw [hC]; rfl)
        have e4 := hc' i hlt2 4 (.int .i64 (f4 l2[i])) (by rw [hC]; rfl)
        have e5 := hc' i hlt2 5 (.int .i64 (f5 l2[i])) (by rw [hC]; rfl)
        rw [show o + (i * 6 + 0) = o + i * 6 by omega] at d0
        rw [show o' + (i * 6 + 0) = o' + i * 6 by omega] at e0
        rw [show o + (i * 6 + 1) = o + i * 6 + 1 by omega] at d1
        rw [show o' + (i * 6 + 1) = o' + i * 6 + 1 by omega] at e1
        rw [show o + (i * 6 + 2) = o + i * 6 + 2 by omega] at d2
        rw [show o' + (i * 6 + 2) = o' + i * 6 + 2 by omega] at e2
        rw [show o + (i * 6 + 3) = o + i * 6 + 3 by omega] at d3
        rw [show o' + (i * 6 + 3) = o' + i * 6 + 3 by omega] at e3
        rw [show o + (i * 6 + 4) = o + i * 6 + 4 by omega] at d4
        rw [show o' + (i * 6 + 4) = o' + i * 6 + 4 by omega] at e4
        rw [show o + (i * 6 + 5) = o + i * 6 + 5 by omega] at d5
        rw [show o' + (i * 6 + 5) = o' + i * 6 + 5 by omega] at e5
        obtain ⟨r, hes, hr⟩ := eqs_Sect (f0 l[i]) (f0 l2[i]) (f1 l[i]) (f1 l2[i]) (f2 l[i]) (f2 l2[i]) (f3 l[i]) (f3 l2[i]) (f4 l[i]) (f4 l2[i]) (f5 l[i]) (f5 l2[i])
        have hCC : C l[i] = C l2[i] ↔ r = true := by
          rw [hC, hC, hr]
          simp
        have HCC := Lib.hid hCC
        clear hc hc' hC hr hCC
        generalize f0 l[i] = p0 at *
        generalize f0 l2[i] = q0 at *
        generalize f1 l[i] = p1 at *
        generalize f1 l2[i] = q1 at *
        generalize f2 l[i] = p2 at *
        generalize f2 l2[i] = q2 at *
        generalize f3 l[i] = p3 at *
        generalize f3 l2[i] = q3 at *
        generalize f4 l[i] = p4 at *
        generalize f4 l2[i] = q4 at *
        generalize f5 l[i] = p5 at *
        generalize f5 l2[i] = q5 at *
        rcases r with _ | _
        · go_wp2_with fail
          go_region
          go_wp2_with fail
          go_ret
          refine ⟨?_, HB.out.drew⟩
          rcases b with _ | _
          · rfl
          · exfalso
            have h1 := HBB.out.1 rfl
            have h2 := congrArg (fun L => L[i]?) h1
            simp only [List.getElem?_map, List.getElem?_eq_getElem hlt, List.getElem?_eq_getElem hlt2, Option.map_some, Option.some.injEq] at h2
            have h3 := HCC.out.1 h2
            simp at h3
        · have HNX := Lib.hid (show ∀ (j : Nat) (h1 : j < l.length) (h2 : j < l2.length), j < i + 1 → C l[j] = C l2[j] from fun j h1 h2 h3 => (by
            rcases (by omega : j < i ∨ j = i) with h4 | h4
            · exact HALL.out j h1 h2 h4
            · subst h4; exact HCC.out.2 rfl))
          go_wp2_with fail
          go_region
          have hnn := HN.out.1
          go_wp2_with fail
          go_roundw
          case rel => exact ⟨i + 1, by omega, by go_num, HNX.out, HB.out.drew⟩
          case measure => simp [intOf]; omega
      · obtain rfl : i = l.length := by omega
        go_wp2_with fail
        go_ret
        refine ⟨?_, HB.out⟩
        rcases b with _ | _
        · exfalso
          have h1 : l.map C = l2.map C := by
            apply List.ext_getElem
            · simp [HL.out]
            · intro j h1 h2
              simp only [List.length_map] at h1 h2
              simp only [List.getElem_map]
              exact HALL.out j h1 h2 h1
          have h2 := HBB.out.2 h1
          simp at h2
        · rfl
  · have e0 : ((l.length : Int) != (l2.length : Int)) = true := by simp; omega
    have HL := Lib.hid hl
    clear hl
    go_enter Tryz.func99, Tryz.ntmps99
    go_wp2_with fail
    go_ret
    refine ⟨?_, Below.refl _ _⟩
    rcases b with _ | _
    · rfl
    · exfalso
      have h1 := congrArg List.length (HBB.out.1 rfl)
      simp only [List.length_map] at h1
      exact HL.out h1
end Go.Proofs.YtplgdpjbkdagfaaGreat
