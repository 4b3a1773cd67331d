/- the document's answer: Head: what its tests on texts say. · the document's answer: Head: what its loops keep. · Cuts and loops over great frames: what is kept is told by one list, all else by one function of the slots' numbers (a binder a slot, hundreds of them, fells the kernel). · the document's Head, cut into declarations: the pieces of its code, and what is known of a frame. · the document's Head: what is known in a round of the sections' loop. -/
import Derived.Test.YtlgdaljbajebhaaSameHead
import Derived.Test.YtlgdaljbajebhaaHdrNumbers
import Derived.Deep.Cut
import Derived.Deep.LoopGhost
import Derived.KernelRfl
namespace Go.Proofs.Ytlgdaljbajebhaa
open Go.ChangeShapes Go.WideShapes Go.ChangeAt Go.RowKit
set_option linter.unusedVariables false

/-- A part of a text is a text, byte by byte. -/
theorem text_eq {f : Nat → Int} (hb : Bytes255 f) (xs : List UInt8) (o : Nat) : ((strF f o xs.length).toList == xs) = true ↔ ∀ i (h : i < xs.length), f (o + i) = (xs[i].toNat : Int) := by
  have hl : (strF f o xs.length).toList = Lib.bytesOf ((List.range xs.length).map fun i => f (o + i)) := Lib.strOfNums_toList _
  rw [hl, beq_iff_eq]
  constructor
  · intro h i hi
    have h2 := congrArg (fun z => z[i]?) h
    simp only [Lib.bytesOf, List.getElem?_map, List.getElem?_range hi, Option.map_some, List.getElem?_eq_getElem hi, Option.some.injEq] at h2
    have h3 := congrArg UInt8.toNat h2
    have := hb (o + i)
    simp at h3
    omega
  · intro h
    apply List.ext_getElem?
    intro i
    rcases Nat.lt_or_ge i xs.length with hi | hi
    · simp only [Lib.bytesOf, List.getElem?_map, List.getElem?_range hi, Option.map_some, List.getElem?_eq_getElem hi, Option.some.injEq]
      rw [h i hi]
      simp
    · rw [List.getElem?_eq_none hi, List.getElem?_eq_none]
      simpa [Lib.bytesOf] using hi

theorem text_mz (S : ByteArray) (h : 2 ≤ S.size) : ((S.extract 0 2).toList == [77, 90]) = true ↔ PlainAid.bt S 0 = 77 ∧ PlainAid.bt S 1 = 90 := by
  have e := extract_bt S 0 2 (by omega)
  rw [Nat.zero_add] at e
  rw [e]
  have k := text_eq (bt255 S) [77, 90] 0
  refine k.trans ⟨fun h => ⟨h 0 (by simp), h 1 (by simp)⟩, fun h i hi => ?_⟩
  have hi' : i < 2 := hi
  rcases (by omega : i = 0 ∨ i = 1) with rfl | rfl
  · exact h.1
  · exact h.2

theorem text_pe (S : ByteArray) (p : Nat) (h : p + 4 ≤ S.size) : ((S.extract p (p + 4)).toList == [80, 69, 0, 0]) = true ↔ PlainAid.bt S p = 80 ∧ PlainAid.bt S (p + 1) = 69 ∧ PlainAid.bt S (p + 2) = 0 ∧ PlainAid.bt S (p + 3) = 0 := by
  rw [extract_bt S p 4 h]
  have k := text_eq (bt255 S) [80, 69, 0, 0] p
  refine k.trans ⟨fun h => ⟨h 0 (by simp), h 1 (by simp), h 2 (by simp), h 3 (by simp)⟩, fun h i hi => ?_⟩
  have hi' : i < 4 := hi
  rcases (by omega : i = 0 ∨ i = 1 ∨ i = 2 ∨ i = 3) with rfl | rfl | rfl | rfl
  · exact h.1
  · exact h.2.1
  · exact h.2.2.1
  · exact h.2.2.2

/-- What the document's Head tells of a text. -/
def HeadQ (w : World) (n : Nat) (f : Nat → Int) (v : Value) : Prop :=
  ∃ cs, v = .tuple #[.agg cs, .int .i64 (headE n f)] ∧
    ((headE n f ≠ 0 ∧ HeadV cs noHead (.slice none 0 0)) ∨ (headE n f = 0 ∧ ∃ sv, HeadV cs (readS f (headP n f)) sv ∧ SectSl w sv (sectsS f (headP n f + 264) (headK n f))))
end Go.Proofs.Ytlgdaljbajebhaa
namespace Go.Proofs.Ytlgdaljbajebhaa
open Go.ChangeShapes Go.WideShapes Go.ChangeAt Go.RowKit
set_option linter.unusedVariables false

theorem built_head6 (b s c e z h : Int) : Try.prog.built 32 [(0, .int .u64 b), (1, .int .i64 s), (2, .int .i64 c), (3, .int .i64 e), (4, .int .i64 z), (5, .int .i64 h)] = some (headC b s c e z h) := by
  kernel_rfl
theorem HeadPart.start6 (h : HeadN) : HeadPart (headC h.base h.stamp h.chars h.entry h.size h.headers) h 0 :=
  ⟨rfl, rfl, rfl, rfl, rfl, rfl, rfl, fun j hj => by omega, fun j hj => by omega, rfl, by simp [headC, Value.oneCell']⟩

/-- The world while directories are read: i of them are there. -/
structure HeadAt2 (w u : World) (g : Nat) (h : HeadN) (i : Nat) : Prop where
  bel : Below w.heap.size w u
  le : w.heap.size + 1 < g
  z0 : u.heap[w.heap.size]? = some (.cells (headC 0 0 0 0 0 0) 32 (0, 0))
  z1 : u.heap[w.heap.size + 1]? = some (.cells (headC 0 0 0 0 0 0) 32 (0, 0))
  cs : ∃ cs, u.heap[g]? = some (.cells cs 32 (0, 0)) ∧ HeadPart cs h i

theorem HeadAt2.next {w u : World} {g : Nat} {h : HeadN} {i : Nat} (x : HeadAt2 w u g h i) (hi : i < 16) (v1 v2 : Int) (e1 : v1 = (h.dirs i).1) (e2 : v2 = (h.dirs i).2) :
    HeadAt2 w ((u.setCell ⟨g, 6 + i * 2, none⟩ (.int .i64 v1)).setCell ⟨g, 6 + i * 2 + 1, none⟩ (.int .i64 v2)) g h (i + 1) := by
  subst e1 e2
  rw [Nat.mul_comm i 2]
  obtain ⟨cs, hc, hp⟩ := x.cs
  have hl := x.le
  refine ⟨(x.bel.setCell (show w.heap.size ≤ g by omega) _).setCell (show w.heap.size ≤ g by omega) _, hl, ?_, ?_, ⟨_, heap_setCell_same _ _ _ _ _ _ (heap_setCell_same _ _ _ _ _ _ hc), hp.next hi⟩⟩
  · rw [heap_setCell_other _ _ _ _ (show w.heap.size ≠ g by omega), heap_setCell_other _ _ _ _ (show w.heap.size ≠ g by omega)]
    exact x.z0
  · rw [heap_setCell_other _ _ _ _ (show w.heap.size + 1 ≠ g by omega), heap_setCell_other _ _ _ _ (show w.heap.size + 1 ≠ g by omega)]
    exact x.z1

/-- The world while sections are read: l of them are there. -/
structure SectW (w u : World) (g : Nat) (h : HeadN) (l : List SectN) : Prop where
  bel : Below w.heap.size w u
  le : w.heap.size + 1 < g
  z0 : u.heap[w.heap.size]? = some (.cells (headC 0 0 0 0 0 0) 32 (0, 0))
  z1 : u.heap[w.heap.size + 1]? = some (.cells (headC 0 0 0 0 0 0) 32 (0, 0))
  cs : ∃ cs A c, u.heap[g]? = some (.cells cs 32 (0, 0)) ∧ HeadV cs h (.slice A l.length c) ∧ OwnT SectN.cells 6 u (g + 1) 37 (.slice A l.length c) l

theorem HeadAt2.all {w u : World} {g : Nat} {h : HeadN} (x : HeadAt2 w u g h 16) : SectW w u g h [] := by
  obtain ⟨cs, hc, hp⟩ := x.cs
  exact ⟨x.bel, x.le, x.z0, x.z1, cs, none, 0, hc, hp.all, OwnT.nil _ _ _⟩

theorem SectW.below {w u u' : World} {g : Nat} {h : HeadN} {l : List SectN} (x : SectW w u g h l) (hb : Below u.heap.size u u') : SectW w u' g h l := by
  obtain ⟨cs, A, c, hc, hv, ho⟩ := x.cs
  exact ⟨x.bel.trans (hb.mono x.bel.size), x.le, (hb.block _ (Array.getElem?_eq_some_iff.1 x.z0).1).trans x.z0, (hb.block _ (Array.getElem?_eq_some_iff.1 x.z1).1).trans x.z1,
    cs, A, c, (hb.block _ (Array.getElem?_eq_some_iff.1 hc).1).trans hc, hv, ho.below hb⟩

/-- One section more. -/
theorem SectW.add {w u u' : World} {g : Nat} {h : HeadN} {l : List SectN} {s : SectN} {A : Option Addr} {c g' cap : Nat} {cs : Array Value} (x : SectW w u g h l) (hc : u.heap[g]? = some (.cells cs 32 (0, 0))) (hv : HeadV cs h (.slice A l.length c))
    (ho : OwnT SectN.cells 6 u (g + 1) 37 (.slice A l.length c) l)
    (hg : u.grownBy u' (Value.ownBlock (.slice A l.length c))) (ho' : OwnT SectN.cells 6 u' (g + 1) 37 (.slice (some ⟨g', 0, none⟩) (l.length + 1) cap) (l ++ [s])) :
    SectW w (u'.setCell ⟨g, 38, none⟩ (.slice (some ⟨g', 0, none⟩) (l.length + 1) cap)) g h (l ++ [s]) := by
  have hl := x.le
  have hlt := (Array.getElem?_eq_some_iff.1 hc).1
  have hbel : Below (g + 1) u u' := ho.grew (Below.refl _ _) (Nat.le_refl _) (by omega) hg
  have hb := hbel.mono (show w.heap.size ≤ g + 1 by omega)
  have k := ho'.lt g' rfl
  refine ⟨(x.bel.trans hb).setCell (show w.heap.size ≤ g by omega) _, hl, ?_, ?_, cs.setIfInBounds 38 (.slice (some ⟨g', 0, none⟩) (l.length + 1) cap), some ⟨g', 0, none⟩, cap, heap_setCell_same _ _ _ _ _ _ ((hbel.block _ (by omega)).trans hc), ?_, ?_⟩
  · rw [heap_setCell_other _ _ _ _ (show w.heap.size ≠ g by omega)]
    exact (hbel.block _ (by omega)).trans x.z0
  · rw [heap_setCell_other _ _ _ _ (show w.heap.size + 1 ≠ g by omega)]
    exact (hbel.block _ (by omega)).trans x.z1
  · rw [List.length_append]; exact hv.sects _
  · rw [List.length_append]
    exact ho'.of_block (fun q hq => heap_setCell_other _ _ _ _ (by have := (ho'.lt q hq).1; show q ≠ g; omega))

/-- Behind the append of a section: what lies where the sections' slice is kept, and all of it behind the store. -/
theorem SectW.app {w u u' : World} {g n : Nat} {h : HeadN} {l : List SectN} {s : SectN} {A : Option Addr} {c g' cap : Nat} {cs : Array Value} (x : SectW w u g h l) (hc : u.heap[g]? = some (.cells cs 32 (0, 0))) (hv : HeadV cs h (.slice A n c)) (hn : l.length = n)
    (ho : OwnT SectN.cells 6 u (g + 1) 37 (.slice A n c) l)
    (hg : u.grownBy u' (Value.ownBlock (.slice A n c))) (ho' : OwnT SectN.cells 6 u' (g + 1) 37 (.slice (some ⟨g', 0, none⟩) (l.length + 1) cap) (l ++ [s])) :
    u'.cell? ⟨g, 38, none⟩ = some (.slice A n c) ∧ u'.frozen? ⟨g, 38, none⟩ = false ∧ SectW w (u'.setCell ⟨g, 38, none⟩ (.slice (some ⟨g', 0, none⟩) (l.length + 1) cap)) g h (l ++ [s]) := by
  subst hn
  have hlt := (Array.getElem?_eq_some_iff.1 hc).1
  have hbel : Below (g + 1) u u' := ho.grew (Below.refl _ _) (Nat.le_refl _) (by omega) hg
  have hg5 := (hbel.block g (by omega)).trans hc
  exact ⟨(cell_of_row _ _ 38 _ _ _ hg5).trans hv.c38, frozen_of_row _ _ 38 _ _ hg5, x.add hc hv ho hg ho'⟩

theorem infoSect : (Try.prog.info? 37).map (fun i => (i.zero, i.size, i.bytes)) = some (some (.agg #[.string ⟨#[]⟩, .int .i64 0, .int .i64 0, .int .i64 0, .int .i64 0, .int .i64 0]), 6, 56) := by kernel_rfl
theorem sectN_one (s : SectN) : ∀ u ∈ s.cells, u.oneCell' = true := by
  intro u hu
  simp [SectN.cells] at hu
  rcases hu with rfl | rfl | rfl | rfl | rfl | rfl <;> rfl
theorem row_cells {w : World} {g : Nat} {s : SectN} {t : TypeId} {fr : Nat × Nat} (h : w.heap[g]? = some (.cells s.arr t fr)) : ∀ j u, s.cells[j]? = some u → w.cell? ⟨g, j, none⟩ = some u := fun j u hu => by
  rw [cell_of_row _ _ _ _ _ _ h]
  rw [← SectN.arr_list, Array.getElem?_toList] at hu
  exact hu

theorem firstZ_ne (f : Nat → Int) : ∀ (n o i : Nat), i < firstZ f o n → f (o + i) ≠ 0
  | 0, _, i, h => by simp [firstZ] at h
  | n + 1, o, i, h => by
    unfold firstZ at h
    by_cases e : f o = 0
    · rw [if_pos e] at h; omega
    · rw [if_neg e] at h
      rcases i with _ | i
      · simpa using e
      · have := firstZ_ne f n (o + 1) i (by omega)
        rwa [show o + 1 + i = o + (i + 1) from by omega] at this
theorem firstZ_at (f : Nat → Int) : ∀ (n o : Nat), firstZ f o n < n → f (o + firstZ f o n) = 0
  | 0, _, h => by omega
  | n + 1, o, h => by
    unfold firstZ at h ⊢
    by_cases e : f o = 0
    · rw [if_pos e]; simpa using e
    · rw [if_neg e] at h ⊢
      have := firstZ_at f n (o + 1) (by omega)
      rwa [show o + 1 + firstZ f (o + 1) n = o + (firstZ f (o + 1) n + 1) from by omega] at this

theorem bt_extract (S : ByteArray) (o n i : Nat) (h : o + n ≤ S.size) (hi : i < n) : PlainAid.bt (S.extract o (o + n)) i = PlainAid.bt S (o + i) := by
  rw [extract_bt S o n h, bt_strF (bt255 S) hi]
theorem size_extract8 (S : ByteArray) (o : Nat) (h : o + 8 ≤ S.size) : (S.extract o (o + 8)).size = 8 := by
  rw [extract_bt S o 8 h, strF_size]

/-- The document's Text of a section's name. -/
theorem rname_yes (S : ByteArray) (o : Nat) (w : World) (h : o + 8 ≤ S.size) (hf : firstZ (PlainAid.bt S) o 8 < 8) :
    Calls Try.prog 34 #[.string (S.extract o (o + 8)), .int .i64 0, .int .i64 8] w fun e w' => e = .returned (.tuple #[.string (nameS (PlainAid.bt S) o), .bool true]) ∧ w = w' := by
  have hz := size_extract8 S o h
  have k := rtext_yes (S.extract o (o + 8)) 0 (firstZ (PlainAid.bt S) o 8) 8 w (by omega) (by omega) (by omega) (by rw [Nat.zero_add, bt_extract S o 8 _ h hf]; exact firstZ_at _ _ _ hf) (fun i hi => by rw [Nat.zero_add, bt_extract S o 8 _ h (by omega)]; exact firstZ_ne _ _ _ _ hi)
  have e : strF (PlainAid.bt (S.extract o (o + 8))) 0 (firstZ (PlainAid.bt S) o 8) = nameS (PlainAid.bt S) o := strF_congr (fun i hi => by rw [Nat.zero_add, bt_extract S o 8 _ h (by omega)])
  rw [e] at k
  exact k
theorem rname_no (S : ByteArray) (o : Nat) (w : World) (h : o + 8 ≤ S.size) (hf : ¬ firstZ (PlainAid.bt S) o 8 < 8) :
    Calls Try.prog 34 #[.string (S.extract o (o + 8)), .int .i64 0, .int .i64 8] w fun e w' => e = .returned (.tuple #[.string ByteArray.empty, .bool false]) ∧ w = w' := by
  have hz := size_extract8 S o h
  exact rtext_no (S.extract o (o + 8)) 0 8 w (by omega) (by omega) (fun i hi _ => by rw [Nat.zero_add, bt_extract S o 8 _ h (by omega)]; exact firstZ_ne _ 8 _ _ (by omega))
theorem rname_all (S : ByteArray) (o : Nat) (h : o + 8 ≤ S.size) (hf : ¬ firstZ (PlainAid.bt S) o 8 < 8) : S.extract o (o + 8) = nameS (PlainAid.bt S) o := by
  have := firstZ_le (PlainAid.bt S) o 8
  rw [extract_bt S o 8 h]
  unfold nameS
  rw [show firstZ (PlainAid.bt S) o 8 = 8 by omega]
end Go.Proofs.Ytlgdaljbajebhaa
namespace Go.Proofs.Ytlgdaljbajebhaa
open Go

/-- The n-th of a list. -/
def nth : List Value → Nat → Option Value
  | [], _ => none
  | x :: _, 0 => some x
  | _ :: l, n + 1 => nth l n

theorem nth_lt : ∀ (l : List Value) (k : Nat), k < l.length → nth l k = l[k]?
  | x :: _, 0, _ => rfl
  | x :: l, k + 1, h => by
    show nth l k = _
    rw [nth_lt l k (by simpa using h)]
    simp

/-- What those hold that are listed. -/
def at_ (l : List Value) : List Nat → List (Option Value)
  | [] => []
  | k :: ks => nth l k :: at_ l ks

/-- What a slot holds. -/
def sl (a : Act) (k : Nat) : Value := (nth a.tmps.toList k).getD default

theorem open_list (l : List Value) (d : List Deferred) (N : Nat) (h : l.length = N) : l = (List.range N).map (sl ⟨⟨l⟩, d⟩) := by
  apply List.ext_getElem
  · simp [h]
  · intro i h1 h2
    simp only [List.getElem_map, List.getElem_range]
    show l[i] = (nth l i).getD default
    rw [nth_lt l i h1, List.getElem?_eq_getElem h1]
    rfl

/-- A frame of N slots, in which those that are listed hold what they held. -/
structure Same (N : Nat) (ix : List Nat) (a a' : Act) : Prop where
  size : a'.tmps.toList.length = N
  dfr : a'.defers = []
  low : at_ a'.tmps.toList ix = at_ a.tmps.toList ix

theorem wp_cutS {P : Program} {s : Code} {K : Act → World → Prop} {Q' : Exit → Act → World → Prop} {a : Act} {w : World} (N : Nat) (ix : List Nat) (R : (Nat → Value) → World → Prop)
    (first : ∀ (J K' : Act → World → Prop), (∀ a' w', (Same N ix a a' ∧ R (sl a') w') → J a' w') → (∀ a' w', Met J a' w' → K' a' w') → s.wp P (Exit.then K' Q') a w)
    (rest : ∀ a' w', Same N ix a a' → R (sl a') w' → K a' w') : s.wp P (Exit.then K Q') a w :=
  wp_cut (fun a' w' => Same N ix a a' ∧ R (sl a') w') (fun a' w' h => rest a' w' h.1 h.2) first

theorem wp_loopS {P : Program} {Q : Exit → Act → World → Prop} {a : Act} {w : World} {c : Code} (N : Nat) (ix : List Nat) (R : Nat → (Nat → Value) → World → Prop) (n₀ : Nat)
    (h₀ : Same N ix a a) (h₁ : R n₀ (sl a) w)
    (round : ∀ n a' w', Same N ix a a' → R n (sl a') w' → ∀ (J : Nat → Act → World → Prop) (K : Act → World → Prop), (∀ k a'' w'', (Same N ix a a'' ∧ R k (sl a'') w'') → J k a'' w'') → (∀ a'' w'', Handed J n a'' w'' → K a'' w'') → c.wp P (Exit.then K Q) a' w') :
    (Code.loop c).wp P Q a w :=
  wp_loop_ghost_k (fun n a' w' => Same N ix a a' ∧ R n (sl a') w') n₀ ⟨h₀, h₁⟩ (fun n a' w' h J K hJ hK => round n a' w' h.1 h.2 J K hJ hK)
end Go.Proofs.Ytlgdaljbajebhaa
namespace Go.Proofs.Ytlgdaljbajebhaa
open Go.ChangeShapes Go.WideShapes Go.ChangeAt Go.RowKit
set_option linter.unusedVariables false

/-- What stands behind the first so many statements. -/
def dropS : Nat → Code → Code
  | 0, c => c
  | n + 1, .seq _ b => dropS n b
  | _, c => c
def headS : Code → Code
  | .seq a _ => a
  | c => c
def inBlock : Code → Code
  | .block _ c => c
  | c => c
def inLoop : Code → Code
  | .loop c => c
  | c => c
noncomputable def bodyH : Code := (Try.f15.body).getD .skip

/-- A frame of N slots, in which those that are listed hold these. -/
structure Has (N : Nat) (ix : List Nat) (vs : List Value) (a : Act) : Prop where
  size : a.tmps.toList.length = N
  dfr : a.defers = []
  low : at_ a.tmps.toList ix = vs.map some

open Classical in
/-- Which error is left behind the sections' number. -/
noncomputable def headE7 (n : Nat) (f : Nat → Int) (P K : Nat) (h : HeadN) : Int :=
  if ¬ chainP h.size n (roundS h.headers 4096) (sectsS f (P + 264) K) then 7 else if h.size ≤ h.entry then 5 else 0
open Classical in
noncomputable def headE6 (n : Nat) (f : Nat → Int) (P : Nat) (h : HeadN) : Int :=
  if ¬ headersP n P h.headers (rdF f (P + 6) 2) then 7 else headE7 n f P (rdF f (P + 6) 2).toNat h
open Classical in
noncomputable def headE5 (n : Nat) (f : Nat → Int) (P : Nat) (h : HeadN) : Int :=
  if ¬ alignS f P h.base h.size then 6 else headE6 n f P h
theorem headE_opt {n : Nat} {f : Nat → Int} {P : Nat} {e : Int} (h1 : beginS n f = ((P : Int), 0)) (h2 : optS f P = e) (h3 : e ≠ 0) : headE n f = e := by
  unfold headE
  rw [if_neg (by rw [h1]; simp), if_pos (by rw [h1]; simp [h2, h3]), h1]
  exact h2

/-- Its name while it is told apart. -/
noncomputable def if_align (n : Nat) (f : Nat → Int) (P : Nat) (h : HeadN) : Int := headE5 n f P h
theorem align_yes {n : Nat} {f : Nat → Int} {P : Nat} {h : HeadN} (k : alignS f P h.base h.size) : if_align n f P h = headE6 n f P h := by
  unfold if_align headE5; rw [if_neg (fun hn => hn k)]
theorem align_no {n : Nat} {f : Nat → Int} {P : Nat} {h : HeadN} (k : ¬ alignS f P h.base h.size) : if_align n f P h = 6 := by
  unfold if_align headE5; rw [if_pos k]
theorem headE_5 {n : Nat} {f : Nat → Int} {P : Nat} (h1 : beginS n f = ((P : Int), 0)) (h2 : optS f P = 0) : headE n f = headE5 n f P (readS f P) := by
  unfold headE
  rw [if_neg (by rw [h1]; simp), if_neg (by rw [h1]; simp [h2])]
  rw [h1]
  rfl

/-- What Head is to come to. -/
def QF (S : ByteArray) (f : Nat → Int) (w : World) : Exit → Act → World → Prop :=
  bodyPost Try.prog Try.f15 fun e w' => (∃ v, e = .returned v ∧ HeadQ w' S.size f v) ∧ Below w.heap.size w w'
end Go.Proofs.Ytlgdaljbajebhaa
namespace Go.Proofs.Ytlgdaljbajebhaa
open Go.ChangeShapes Go.WideShapes Go.ChangeAt Go.RowKit
set_option linter.unusedVariables false

structure RC (S : ByteArray) (f : Nat → Int) (h : HeadN) (nx N0 : Int) (SL TK : List SectN) (s : SectN) (P K i o : Nat) : Prop where
  hs : S.size ≤ 1000000
  hf : PlainAid.bt S = f
  f255 : Bytes255 f
  e8 : ¬ chainP h.size S.size N0 SL → headE S.size f = 7
  ch : chainP h.size S.size N0 SL ↔ chainP h.size S.size nx (SL.drop i)
  dr : SL.drop i = s :: SL.drop (i + 1)
  tk : SL.take (i + 1) = TK ++ [s]
  len : TK.length = i
  ss : sectS f o = s
  sb : SectBd s
  oS : o + 40 ≤ S.size
  ho : P + 264 + 40 * i = o
  x0 : 0 ≤ nx
  x1 : nx ≤ 4294967296 + i * 4294967296
  lt : i < K
  k16 : K ≤ 16
  hp : P < 4294967296

noncomputable def lp2 : Code := inLoop (inBlock (dropS 1 (headS (dropS 16 bodyH))))
noncomputable def bl3 : Code := inBlock (headS (dropS 1 lp2))
noncomputable def lp1 : Code := inLoop (inBlock (dropS 1 (headS (dropS 14 bodyH))))
end Go.Proofs.Ytlgdaljbajebhaa
