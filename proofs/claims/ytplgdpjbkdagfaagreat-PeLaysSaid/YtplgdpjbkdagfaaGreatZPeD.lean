import Derived.Test.YtplgdpjbkdagfaaGreatZPeB
import Derived.Test.YtplgdpjbkdagfaaGreatZMd
import Derived.Test.YtplgdpjbkdagfaaGreatZAwake1
import Derived.Test.YtplgdpjbkdagfaaGreatRelParse
import Derived.Test.YtplgdpjbkdagfaaGreatShelf
namespace Go.Proofs.YtplgdpjbkdagfaaGreat
open Go.ChangeShapes Go.WideShapes Go.ChangeAt Go.RowKit
set_option linter.unusedVariables false
set_option linter.unusedSimpArgs false
set_option maxRecDepth 100000
structure HeadK (w : World) (sl : Value) (N : Nat) (IM : Nat → Int) (HG : World → Array Value → Prop) (rv sz : Nat → Int) (base : Int) : Prop where
  parse : ∀ W, Below w.heap.size w W → Calls Tryz.prog 23 #[sl] W fun x u => (∃ cs, x = .returned (.tuple #[.agg cs, .int .i64 0]) ∧ HG u cs) ∧ Below W.heap.size W u
  sized : ∀ u cs, HG u cs → cs.size = 39 ∧ cs.all (·.oneCell') = true
  stays : ∀ u u' cs, HG u cs → Below u.heap.size u u' → HG u' cs
  lay : ∀ W cs, Below w.heap.size w W → HG W cs → Calls Tryz.prog 24 #[.agg cs, sl] W fun x u => ∃ gi, x = .returned (.slice (some ⟨gi, 0, none⟩) N N) ∧ OwnC u W.heap.size gi N N IM ∧ Below W.heap.size W u
  dirs : ∀ u cs, HG u cs → ∀ i, i < 16 → cs[6 + 2 * i]? = some (.int .i64 (rv i)) ∧ cs[6 + 2 * i + 1]? = some (.int .i64 (sz i))
  base0 : ∀ u cs, HG u cs → cs[0]? = some (.int .u64 base)
def ReadE1 (w : World) (N : Nat) (IM : Nat → Int) (fn : Nat) (rest : List Value) (er : Int) (S : Nat → Value → World → Prop) : Prop :=
  ∀ W gi P, OwnC W w.heap.size gi N N IM → Below w.heap.size w W → P < W.heap.size → gi ≠ P → Reads1 fn (.slice (some ⟨gi, 0, none⟩) N N :: rest).toArray P W er (S gi)
def ReadE3 (w : World) (N : Nat) (IM : Nat → Int) (fn : Nat) (rest : List Value) (er : Int) (S : Nat → Value → Value → Value → World → Prop) : Prop :=
  ∀ W gi P, OwnC W w.heap.size gi N N IM → Below w.heap.size w W → P < W.heap.size → gi ≠ P → Reads3 fn (.slice (some ⟨gi, 0, none⟩) N N :: rest).toArray P W er (S gi)
theorem arr_range (cs : Array Value) (n : Nat) (h : cs.size = n) : ((List.range n).map (fun j => cs.getD j undef)).toArray = cs := by
  apply Array.ext
  · simp [h]
  · intro i h1 h2
    simp [h2]
theorem peAt_alloc {w : World} {g : Nat} {x : PeV} (h : w.heap[g]? = some (.cells (peC x) 50 (0, 0))) : PeAt w g x :=
  ⟨lt_of_row' h, fun i hi => ⟨by rw [cell_of_row' h, peC_cell x hi], by simp [World.frozen?, h]⟩⟩
theorem pe0_one {hd : Nat → Value} {im : Value} (h : ∀ j, j < 39 → (hd j).oneCell' = true) (hi : im.oneCell' = true) : (peC (pe0 hd im)).all (·.oneCell') = true := by
  refine all_oneCell_toArray (fun v hv => ?_)
  obtain ⟨j, hj, rfl⟩ := List.mem_map.mp hv
  have hj := List.mem_range.1 hj
  by_cases c : j < 39
  · rw [peF_hd _ c]; exact h j c
  · rcases (by omega : j = 39 ∨ j = 40 ∨ j = 41 ∨ j = 42 ∨ j = 43 ∨ j = 44 ∨ j = 45 ∨ j = 46 ∨ j = 47 ∨ j = 48 ∨ j = 49) with rfl | rfl | rfl | rfl | rfl | rfl | rfl | rfl | rfl | rfl | rfl
    · exact hi
    all_goals rfl
inductive PeTold (w : World) (N : Nat) (IM : Nat → Int) (HG : World → Array Value → Prop) (FE : Int) (SE : Nat → Value → Value → Value → World → Prop) (SI SR : Nat → Value → World → Prop) (ST : Nat → Value → Value → Value → World → Prop) (SB SD : Nat → Value → World → Prop) : Ending → World → Prop
  | bad {u : World} (h : ¬ FE = 0) : PeTold w N IM HG FE SE SI SR ST SB SD (.returned (.tuple #[.agg (peC peZ), .int .i64 FE])) u
  | good {u : World} (h : FE = 0) (y : PeV) (cs : Array Value) (gi W : Nat) (hk : ∃ wb, HG wb cs ∧ wb.heap[w.heap.size]? = some (.cells (peC peZ) 50 (0, 0)) ∧ Kept (fun k => k < wb.heap.size ∧ k ≠ w.heap.size) wb u) (hh : ∀ j, j < 39 → cs[j]? = some (y.hd j)) (hi : y.img = .slice (some ⟨gi, 0, none⟩) N N) (ho : OwnC u w.heap.size gi N N IM) (hW : w.heap.size ≤ W)
      (lE : Lasts W (SE gi y.e0 y.e1 y.e2) u) (lI : Lasts W (SI gi y.im) u) (lR : Lasts W (SR gi y.re) u) (lT : Lasts W (ST gi y.t0 y.t1 y.t2) u) (lB : Lasts W (SB gi y.bo) u) (lD : Lasts W (SD gi y.de) u) :
      PeTold w N IM HG FE SE SI SR ST SB SD (.returned (.tuple #[.agg (peC y), .int .i64 0])) u
theorem yieldsIf_build {P : Program} {ops : Array Oper} {T : World → Prop} {o : Oper} {a : Act} (t : TypeId) (parts : Array (Nat × Operand)) (l : List (Nat × Value)) (cells : Array Value) (hgd : o.guard = none) (ho : o.op = .build t parts)
    (hl : (parts.map fun (i, x) => (i, a.eval x)).toList = l) (hf : P.built t l = some cells) : YieldsIf P ops T o (.agg cells) a := by
  subst hl
  refine Or.inl ⟨by simp [Region.wanted, hgd], fun w hw => ?_⟩
  unfold execOp
  simp only [ho, Sem.run_bind, run_build w t _ cells hf, Result.andThen_ok]
  rfl
def PeLaid (w : World) (N : Nat) (IM : Nat → Int) (HG : World → Array Value → Prop) (cs : Array Value) (HD : Nat → Value) (v : Value) (W : World) : Prop :=
  ∃ P gi, v = .pointer (some ⟨P, 0, none⟩) ∧ PeAt W P (pe0 HD (.slice (some ⟨gi, 0, none⟩) N N)) ∧ OwnC W w.heap.size gi N N IM ∧ Below w.heap.size w W ∧ w.heap.size < P ∧ w.heap.size < gi ∧ gi ≠ P ∧ (∃ wb, HG wb cs ∧ Below wb.heap.size wb W ∧ wb.heap.size ≤ P ∧ wb.heap[w.heap.size]? = some (.cells (peC peZ) 50 (0, 0))) ∧ W.heap[w.heap.size]? = some (.cells (peC peZ) 50 (0, 0))
theorem cell_one {cs : Array Value} (h : cs.size = 39) (h1 : cs.all (·.oneCell') = true) {j : Nat} (hj : j < 39) : (cs.getD j undef).oneCell' = true := by
  have := Array.all_eq_true_iff_forall_mem.1 h1 (cs.getD j undef) (by simp [Array.getD, h, hj])
  exact this
theorem OwnC.setRow {w : World} {b g n c : Nat} {f : Nat → Int} (h : OwnC w b g n c f) {P : Nat} (hn : g ≠ P) (cells : Array Value) : OwnC (w.setRow P cells) b g n c f := h.of_block (by simp [World.setRow]) (setRow_other w P g cells hn)
theorem peC_one (y : PeV) (h : ∀ j, j < 39 → (y.hd j).oneCell' = true) (hi : y.img.oneCell' = true) (ho : (y.e0.oneCell' = true ∧ y.e1.oneCell' = true ∧ y.e2.oneCell' = true) ∧ y.im.oneCell' = true ∧ y.re.oneCell' = true ∧ (y.t0.oneCell' = true ∧ y.t1.oneCell' = true ∧ y.t2.oneCell' = true) ∧ y.bo.oneCell' = true ∧ y.de.oneCell' = true) : (peC y).all (·.oneCell') = true := by
  obtain ⟨⟨h0, h1, h2⟩, h3, h4, ⟨h5, h6, h7⟩, h8, h9⟩ := ho
  refine all_oneCell_toArray (fun v hv => ?_)
  obtain ⟨j, hj, rfl⟩ := List.mem_map.mp hv
  have hj := List.mem_range.1 hj
  by_cases c : j < 39
  · rw [peF_hd _ c]; exact h j c
  · rcases (by omega : j = 39 ∨ j = 40 ∨ j = 41 ∨ j = 42 ∨ j = 43 ∨ j = 44 ∨ j = 45 ∨ j = 46 ∨ j = 47 ∨ j = 48 ∨ j = 49) with rfl | rfl | rfl | rfl | rfl | rfl | rfl | rfl | rfl | rfl | rfl
    · exact hi
    · exact h0
    · exact h1
    · exact h2
    · exact h3
    · exact h9
    · exact h8
    · exact h4
    · exact h5
    · exact h6
    · exact h7
theorem Kept.setRow_ne (w : World) (g : Nat) (cs : Array Value) : Kept (fun k => k ≠ g) w (w.setRow g cs) := ⟨rfl, rfl, rfl, by simp [World.setRow], fun k hk => setRow_other w g k cs hk⟩
set_option maxHeartbeats 4000000 in
theorem peparse_head (sl : Value) (N : Nat) (IM : Nat → Int) (HG : World → Array Value → Prop) (rv sz : Nat → Int) (base : Int) (w : World) (hk : HeadK w sl N IM HG rv sz base)
    (eE eI eR eT eB eD : Int) (SE : Nat → Value → Value → Value → World → Prop) (SI SR : Nat → Value → World → Prop) (ST : Nat → Value → Value → Value → World → Prop) (SB SD : Nat → Value → World → Prop)
    (hE : ReadE3 w N IM 79 [.agg #[.int .i64 (rv 0), .int .i64 (sz 0)]] eE SE)
    (hI : ReadE1 w N IM 80 [.agg #[.int .i64 (rv 1), .int .i64 (sz 1)]] eI SI)
    (hR : ReadE1 w N IM 81 [.agg #[.int .i64 (rv 5), .int .i64 (sz 5)]] eR SR)
    (hT : ReadE3 w N IM 82 [.agg #[.int .i64 (rv 9), .int .i64 (sz 9)], .int .u64 base] eT ST)
    (hB : ReadE1 w N IM 83 [.agg #[.int .i64 (rv 11), .int .i64 (sz 11)]] eB SB)
    (hD : ReadE1 w N IM 84 [.agg #[.int .i64 (rv 13), .int .i64 (sz 13)]] eD SD) :
    Calls Tryz.prog 11 #[sl] w fun x u => Below w.heap.size w u ∧ PeTold w N IM HG (firstE eE eI eR eT eB eD) SE SI SR ST SB SD x u := by
  obtain ⟨FE, hFE⟩ : ∃ FE, firstE eE eI eR eT eB eD = FE := ⟨_, rfl⟩
  rw [hFE]
  have HFE := Lib.hid hFE
  clear hFE
  have HK := Lib.hid hk
  have HBE := Lib.hid hE
  have HBI := Lib.hid hI
  have HBR := Lib.hid hR
  have HBT := Lib.hid hT
  have HBB := Lib.hid hB
  have HBD := Lib.hid hD
  have HB0 := Lib.hid ((Below.refl w.heap.size w).alloc (Nat.le_refl _) (.cells (peC peZ) 50))
  have hZ := heap_alloc_new w (.cells (peC peZ) 50)
  have hs1 : (w.alloc (.cells (peC peZ) 50)).heap.size = w.heap.size + 1 := by simp
  clear hk hE hI hR hT hB hD
  go_enter Tryz.func11, Tryz.ntmps11
  go_wp2_with fail
  rw [zero_pe]
  generalize w.alloc (.cells (peC peZ) 50) = w1 at hZ HB0 hs1 ⊢
  refine (HK.out.parse w1 HB0.out).mono ?_
  rintro e w2 ⟨⟨cs, rfl, hg⟩, hb⟩
  have hZ2 := (hb.block w.heap.size (by omega)).trans hZ
  have HB2 := Lib.hid (HB0.out.trans (hb.mono (by omega)))
  have hlt : w.heap.size < w2.heap.size := by have := hb.size; omega
  obtain ⟨hcz, hone⟩ := HK.out.sized _ _ hg
  have hsz : (Tryz.prog.info? 41).map (·.size) = some cs.size := by rw [hcz]; kernel_rfl
  have hsz2 : (headC 0 0 0 0 0 0).size = cs.size := by rw [hcz]; kernel_rfl
  have HZ3 := Lib.hid ((setRow_other (w2.alloc (.cells (headC 0 0 0 0 0 0) 41)) w2.heap.size w.heap.size cs (by omega)).trans ((heap_alloc_old w2 (.cells (headC 0 0 0 0 0 0) 41) hlt).trans hZ2))
  have hb23 : Below w2.heap.size w2 ((w2.alloc (.cells (headC 0 0 0 0 0 0) 41)).setRow w2.heap.size cs) := below_setRow ((Below.refl _ w2).alloc (Nat.le_refl _) _) (Nat.le_refl _) _
  have HB3 := Lib.hid (HB2.out.trans (hb23.mono HB2.out.size))
  have HG3 := Lib.hid (HK.out.stays _ _ _ hg hb23)
  have HH3 := Lib.hid (setRow_heap (w2.alloc (.cells (headC 0 0 0 0 0 0) 41)) w2.heap.size _ cs _ _ (heap_alloc_new _ _))
  have HCZ := Lib.hid hcz
  have HLT := Lib.hid hlt
  have HONE := Lib.hid hone
  clear hcz hZ2 HB2 hlt hZ hb hs1 HB0 hg hb23
  go_upto_region 4 with (first
    | (refine wpList_store_row rfl 41 (.tmp 4) (.tmp 11) rfl w2.heap.size cs rfl rfl 41 (headC 0 0 0 0 0 0) (heap_alloc_new _ _) hsz hsz2 hone ?_; rw [zero_head]; generalize (w2.alloc (.cells (headC 0 0 0 0 0 0) 41)).setRow w2.heap.size cs = w3 at *; generalize w2.heap.size = gh at *)
    | fail)
  obtain ⟨HD, hHD⟩ : ∃ HD : Nat → Value, (fun j => cs.getD j undef) = HD := ⟨_, rfl⟩
  have HHD := Lib.hid (show ((List.range 39).map HD).toArray = cs ∧ ∀ j, j < 39 → (HD j).oneCell' = true from ⟨by rw [← hHD]; exact arr_range cs 39 HCZ.out, fun j hj => by rw [← hHD]; exact cell_one HCZ.out HONE.out hj⟩)
  clear hHD
  go_cut [6] from 8 (fun v6 wc => PeLaid w N IM HG cs HD v6 wc)
  case first =>
    rename_i J1 K1 hJ1 hK1
    have HJ1 := Lib.hid hJ1
    have HK1 := Lib.hid hK1
    have HB4 := Lib.hid HB3.out.drew
    have HG4 := Lib.hid (HK.out.stays _ _ _ HG3.out ((Below.refl _ w3).drew))
    have HLG := Lib.hid (show gh < w3.drew.heap.size from lt_of_row' (HH3.out : w3.drew.heap[gh]? = _))
    clear hJ1 hK1
    have HS := Lib.hid (show w3.drew.heap[gh]? = some (.cells cs 41 (0, 0)) from HH3.out)
    refine wp_region_noPanic ?_
    refine wp_region_K (fun W => W.heap[gh]? = some (.cells cs 41 (0, 0))) (fun _ => True) 99 (by kernel_rfl) ?_
    refine wpAnyK_take (i := 0) (oi := ?_) (v := ?_) ?_ (by kernel_rfl) (by kernel_rfl) (by kernel_rfl) (fun _ _ _ h => h) (by decide) ?_ HS.out (fun _ => trivial) ?_
    rotate_left 2
    · (simp only [List.getElem?_toArray, List.getElem?_cons_succ, List.getElem?_cons_zero]; rfl)
    · refine yieldsIf_load_row 41 (.tmp 4) gh 41 cs (0, 0) ?_ ?_ ?_ (fun W hW => hW) ?_ hsz
      · rfl
      · rfl
      · rfl
      · kernel_rfl
    try simp only [Act.put, List.setIfInBounds_toArray, List.set_cons_zero, List.set_cons_succ]
    refine wpAnyK_take (i := 1) (oi := ?_) (v := ?_) ?_ (by kernel_rfl) (by kernel_rfl) (by kernel_rfl) (fun _ _ _ h => h) (by decide) ?_ HS.out (fun _ => trivial) ?_
    rotate_left 2
    · (simp only [List.getElem?_toArray, List.getElem?_cons_succ, List.getElem?_cons_zero]; rfl)
    · refine yieldsIf_load_row 41 (.tmp 4) gh 41 cs (0, 0) ?_ ?_ ?_ (fun W hW => hW) ?_ hsz
      · rfl
      · rfl
      · rfl
      · kernel_rfl
    try simp only [Act.put, List.setIfInBounds_toArray, List.set_cons_zero, List.set_cons_succ]
    refine wpAnyK_take (i := 2) (oi := ?_) (v := ?_) ?_ (by kernel_rfl) (by kernel_rfl) (by kernel_rfl) (fun _ _ _ h => h) (by decide) ?_ HS.out (fun _ => trivial) ?_
    rotate_left 2
    · (simp only [List.getElem?_toArray, List.getElem?_cons_succ, List.getElem?_cons_zero]; rfl)
    · (first | exact Or.inr ⟨by rfl, rfl⟩ | (refine Or.inl ⟨by rfl, ?_⟩; intro W hSw; clear hSw; go_simp; try with_reducible rfl))
    try simp only [Act.put, List.setIfInBounds_toArray, List.set_cons_zero, List.set_cons_succ]
    have HZ4 := Lib.hid (show w3.drew.heap[w.heap.size]? = _ from HZ3.out)
    generalize w3.drew = w4 at *
    refine wpAnyK_two (i := 3) (j := 5) (by kernel_rfl) rfl rfl (fun K hK => ?_) (fun K hK => ?_)
    · skip
      go_simp
      go_at_call 24
      refine (HK.out.lay w4 cs HB4.out HG4.out).mono ?_
      rintro e w5 ⟨gi, rfl, ho, hb⟩
      have hle := HB4.out.size
      have hlz := HLT.out
      have HS5 := Lib.hid ((hb.block gh HLG.out).trans HS.out)
      have HB5 := Lib.hid (HB4.out.trans (hb.mono hle))
      have HG5 := Lib.hid (HK.out.stays _ _ _ HG4.out hb)
      have HZ5 := Lib.hid ((hb.block w.heap.size (lt_of_row' HZ4.out)).trans HZ4.out)
      have HO5 := Lib.hid (ho.weaken (Nat.succ_le_of_lt (lt_of_row' HZ4.out)))
      clear ho hb hle hlz
      refine hK.out _ _ HS5.out (fun _ => trivial) ?_
      clear hK K
      try simp only [Act.put, List.setIfInBounds_toArray, List.set_cons_zero, List.set_cons_succ]
      refine wpAnyK_take (i := 4) (oi := ?_) (v := ?_) ?_ (by kernel_rfl) (by kernel_rfl) (by kernel_rfl) (fun _ _ _ h => h) (by decide) ?_ HS5.out (fun _ => trivial) ?_
      rotate_left 2
      · (simp only [List.getElem?_toArray, List.getElem?_cons_succ, List.getElem?_cons_zero]; rfl)
      · refine yieldsIf_build 50 #[(0, .tmp 17), (1, .tmp 20)] [(0, .agg cs), (1, .slice (some ⟨gi, 0, none⟩) N N)] (peC (pe0 HD (.slice (some ⟨gi, 0, none⟩) N N))) ?_ ?_ ?_ ?_
        · rfl
        · rfl
        · simp [Act.eval]
        · have h := built_pe HD (some ⟨gi, 0, none⟩) N N
          rw [HHD.out.1] at h
          exact h
      try simp only [Act.put, List.setIfInBounds_toArray, List.set_cons_zero, List.set_cons_succ]
      refine wpAnyK_one (i := 5) (o := ?_) (by kernel_rfl) ?_ (fun K hK => ?_)
      rotate_left 1
      · (simp only [List.getElem?_toArray, List.getElem?_cons_succ, List.getElem?_cons_zero]; rfl)
      go_simp
      rw [zero_pe]
      have hb : Below w5.heap.size w5 (w5.alloc (.cells (peC peZ) 50)) := (Below.refl _ w5).alloc (Nat.le_refl _) _
      have HS6 := Lib.hid ((hb.block gh (lt_of_row' HS5.out)).trans HS5.out)
      have HB6 := Lib.hid (HB5.out.trans (hb.mono HB5.out.size))
      have HZ6 := Lib.hid ((hb.block w.heap.size (lt_of_row' HZ5.out)).trans HZ5.out)
      have HO6 := Lib.hid (HO5.out.below hb)
      obtain ⟨P, hP⟩ : ∃ P, w5.heap.size = P := ⟨_, rfl⟩
      have HP6 := Lib.hid (show (w5.alloc (.cells (peC peZ) 50)).heap[P]? = some (.cells (peC peZ) 50) from by rw [← hP]; exact heap_alloc_new w5 (.cells (peC peZ) 50))
      have HLP := Lib.hid (show w.heap.size < P ∧ gi ≠ P ∧ gh ≠ P from by rw [← hP]; exact ⟨lt_of_row' HZ5.out, Nat.ne_of_lt HO5.out.lt, Nat.ne_of_lt (lt_of_row' HS5.out)⟩)
      have HGB := Lib.hid (show HG w5 cs ∧ Below w5.heap.size w5 (w5.alloc (.cells (peC peZ) 50)) ∧ w5.heap.size ≤ P ∧ w5.heap[w.heap.size]? = some (.cells (peC peZ) 50 (0, 0)) from ⟨HG5.out, hb, Nat.le_of_eq hP, HZ5.out⟩)
      simp only [hP]
      generalize w5.alloc (.cells (peC peZ) 50) = w6 at *
      clear hb hP
      refine hK.out _ _ HS6.out (fun _ => trivial) ?_
      clear hK K
      try simp only [Act.put, List.setIfInBounds_toArray, List.set_cons_zero, List.set_cons_succ]
      refine wpAnyK_one (i := 6) (o := ?_) (by kernel_rfl) ?_ (fun K hK => ?_)
      rotate_left 1
      · (simp only [List.getElem?_toArray, List.getElem?_cons_succ, List.getElem?_cons_zero]; rfl)
      refine step_store_row' rfl 50 (.tmp 6) (.tmp 21) rfl P (peC (pe0 HD (.slice (some ⟨gi, 0, none⟩) N N))) rfl rfl 50 (peC peZ) HP6.out (by rw [peC_size]; kernel_rfl) (by rw [peC_size, peC_size]) (pe0_one (fun j hj => HHD.out.2 j hj) rfl) ?_
      have HS7 := Lib.hid ((setRow_other w6 P gh (peC (pe0 HD (.slice (some ⟨gi, 0, none⟩) N N))) HLP.out.2.2).trans HS6.out)
      have HL7 := Lib.hid (show PeLaid w N IM HG cs HD (.pointer (some ⟨P, 0, none⟩)) (w6.setRow P (peC (pe0 HD (.slice (some ⟨gi, 0, none⟩) N N)))) from
        ⟨P, gi, rfl, peAt_alloc (setRow_heap w6 P _ (peC (pe0 HD (.slice (some ⟨gi, 0, none⟩) N N))) _ _ HP6.out), (HO6.out.weaken (Nat.le_succ _)).setRow HLP.out.2.1 _, below_setRow HB6.out (Nat.le_of_lt HLP.out.1) _, HLP.out.1, HO6.out.le, HLP.out.2.1, ⟨_, HGB.out.1, below_setRow HGB.out.2.1 HGB.out.2.2.1 _, HGB.out.2.2.1, HGB.out.2.2.2⟩, (setRow_other w6 P w.heap.size _ (Nat.ne_of_lt HLP.out.1)).trans HZ6.out⟩)
      generalize w6.setRow P (peC (pe0 HD (.slice (some ⟨gi, 0, none⟩) N N))) = w7 at *
      refine hK.out _ _ HS7.out (fun _ => trivial) ?_
      clear hK K
      try simp only [Act.put, List.setIfInBounds_toArray, List.set_cons_zero, List.set_cons_succ]
      refine wpAnyK_done (by kernel_rfl) ?_ _
      refine NoPanic.normal ?_
      refine HK1.out _ _ ?_
      refine Met.intro (HJ1.out _ _ ?_)
      repeat apply Exists.intro
      exact ⟨HL7.out, rfl⟩
    · skip
      go_simp
      rw [zero_pe]
      have hb : Below w4.heap.size w4 (w4.alloc (.cells (peC peZ) 50)) := (Below.refl _ w4).alloc (Nat.le_refl _) _
      have HS5 := Lib.hid ((hb.block gh HLG.out).trans HS.out)
      have HB5 := Lib.hid (HB4.out.trans (hb.mono HB4.out.size))
      have HG5 := Lib.hid (HK.out.stays _ _ _ HG4.out hb)
      have HZ5 := Lib.hid ((hb.block w.heap.size (lt_of_row' HZ4.out)).trans HZ4.out)
      obtain ⟨P, hP⟩ : ∃ P, w4.heap.size = P := ⟨_, rfl⟩
      have HP5 := Lib.hid (show (w4.alloc (.cells (peC peZ) 50)).heap[P]? = some (.cells (peC peZ) 50) from by rw [← hP]; exact heap_alloc_new w4 (.cells (peC peZ) 50))
      have HLQ := Lib.hid (show w.heap.size < P ∧ gh ≠ P from by rw [← hP]; exact ⟨lt_of_row' HZ4.out, Nat.ne_of_lt HLG.out⟩)
      have HGA := Lib.hid (show HG w4 cs ∧ Below w4.heap.size w4 (w4.alloc (.cells (peC peZ) 50)) ∧ w4.heap.size ≤ P ∧ w4.heap[w.heap.size]? = some (.cells (peC peZ) 50 (0, 0)) from ⟨HG4.out, hb, Nat.le_of_eq hP, HZ4.out⟩)
      simp only [hP]
      generalize w4.alloc (.cells (peC peZ) 50) = w5 at *
      clear hb hP
      refine hK.out _ _ HS5.out (fun _ => trivial) ?_
      clear hK K
      try simp only [Act.put, List.setIfInBounds_toArray, List.set_cons_zero, List.set_cons_succ]
      refine wpAnyK_one (i := 3) (o := ?_) (by kernel_rfl) ?_ (fun K hK => ?_)
      rotate_left 1
      · (simp only [List.getElem?_toArray, List.getElem?_cons_succ, List.getElem?_cons_zero]; rfl)
      go_simp
      go_at_call 24
      refine (HK.out.lay w5 cs HB5.out HG5.out).mono ?_
      rintro e w6 ⟨gi, rfl, ho, hb⟩
      have hle := HB5.out.size
      have hlz := HLT.out
      have HS6 := Lib.hid ((hb.block gh (lt_of_row' HS5.out)).trans HS5.out)
      have HB6 := Lib.hid (HB5.out.trans (hb.mono hle))
      have HZ6 := Lib.hid ((hb.block w.heap.size (lt_of_row' HZ5.out)).trans HZ5.out)
      have HP6 := Lib.hid ((hb.block P (lt_of_row' HP5.out)).trans HP5.out)
      have HGB := Lib.hid (show HG w4 cs ∧ Below w4.heap.size w4 w6 ∧ w4.heap.size ≤ P ∧ w4.heap[w.heap.size]? = some (.cells (peC peZ) 50 (0, 0)) from ⟨HGA.out.1, HGA.out.2.1.trans (hb.mono HGA.out.2.1.size), HGA.out.2.2.1, HGA.out.2.2.2⟩)
      have HO6 := Lib.hid (ho.weaken (Nat.succ_le_of_lt (lt_of_row' HZ5.out)))
      have HLP := Lib.hid (show w.heap.size < P ∧ gi ≠ P ∧ gh ≠ P from ⟨HLQ.out.1, fun e => by have := ho.le; have := lt_of_row' HP5.out; omega, HLQ.out.2⟩)
      clear ho hb hle hlz
      refine hK.out _ _ HS6.out (fun _ => trivial) ?_
      clear hK K
      try simp only [Act.put, List.setIfInBounds_toArray, List.set_cons_zero, List.set_cons_succ]
      refine wpAnyK_take (i := 4) (oi := ?_) (v := ?_) ?_ (by kernel_rfl) (by kernel_rfl) (by kernel_rfl) (fun _ _ _ h => h) (by decide) ?_ HS6.out (fun _ => trivial) ?_
      rotate_left 2
      · (simp only [List.getElem?_toArray, List.getElem?_cons_succ, List.getElem?_cons_zero]; rfl)
      · refine yieldsIf_build 50 #[(0, .tmp 17), (1, .tmp 20)] [(0, .agg cs), (1, .slice (some ⟨gi, 0, none⟩) N N)] (peC (pe0 HD (.slice (some ⟨gi, 0, none⟩) N N))) ?_ ?_ ?_ ?_
        · rfl
        · rfl
        · simp [Act.eval]
        · have h := built_pe HD (some ⟨gi, 0, none⟩) N N
          rw [HHD.out.1] at h
          exact h
      try simp only [Act.put, List.setIfInBounds_toArray, List.set_cons_zero, List.set_cons_succ]
      refine wpAnyK_one (i := 6) (o := ?_) (by kernel_rfl) ?_ (fun K hK => ?_)
      rotate_left 1
      · (simp only [List.getElem?_toArray, List.getElem?_cons_succ, List.getElem?_cons_zero]; rfl)
      refine step_store_row' rfl 50 (.tmp 6) (.tmp 21) rfl P (peC (pe0 HD (.slice (some ⟨gi, 0, none⟩) N N))) rfl rfl 50 (peC peZ) HP6.out (by rw [peC_size]; kernel_rfl) (by rw [peC_size, peC_size]) (pe0_one (fun j hj => HHD.out.2 j hj) rfl) ?_
      have HS7 := Lib.hid ((setRow_other w6 P gh (peC (pe0 HD (.slice (some ⟨gi, 0, none⟩) N N))) HLP.out.2.2).trans HS6.out)
      have HL7 := Lib.hid (show PeLaid w N IM HG cs HD (.pointer (some ⟨P, 0, none⟩)) (w6.setRow P (peC (pe0 HD (.slice (some ⟨gi, 0, none⟩) N N)))) from
        ⟨P, gi, rfl, peAt_alloc (setRow_heap w6 P _ (peC (pe0 HD (.slice (some ⟨gi, 0, none⟩) N N))) _ _ HP6.out), (HO6.out.weaken (Nat.le_succ _)).setRow HLP.out.2.1 _, below_setRow HB6.out (Nat.le_of_lt HLP.out.1) _, HLP.out.1, HO6.out.le, HLP.out.2.1, ⟨_, HGB.out.1, below_setRow HGB.out.2.1 HGB.out.2.2.1 _, HGB.out.2.2.1, HGB.out.2.2.2⟩, (setRow_other w6 P w.heap.size _ (Nat.ne_of_lt HLP.out.1)).trans HZ6.out⟩)
      generalize w6.setRow P (peC (pe0 HD (.slice (some ⟨gi, 0, none⟩) N N))) = w7 at *
      refine hK.out _ _ HS7.out (fun _ => trivial) ?_
      clear hK K
      try simp only [Act.put, List.setIfInBounds_toArray, List.set_cons_zero, List.set_cons_succ]
      refine wpAnyK_done (by kernel_rfl) ?_ _
      refine NoPanic.normal ?_
      refine HK1.out _ _ ?_
      refine Met.intro (HJ1.out _ _ ?_)
      repeat apply Exists.intro
      exact ⟨HL7.out, rfl⟩
  case rest =>
    obtain ⟨P, gi, rfl, hp, ho, hb, hP, hgi, hne, hgb, hz⟩ := hcut
    have HO := Lib.hid ho
    have HB := Lib.hid hb
    have HPP := Lib.hid (And.intro hP (And.intro hgi hne))
    have HGB := Lib.hid hgb
    have HZ := Lib.hid hz
    have hcs : ∀ j, j < 39 → cs[j]? = some (HD j) := fun j hj => by rw [← HHD.out.1]; simp [hj]
    have HCS := Lib.hid hcs
    obtain ⟨wb, hw1, _, _, _⟩ := hgb
    have hdr : ∀ i, i < 16 → HD (6 + 2 * i) = .int .i64 (rv i) ∧ HD (6 + 2 * i + 1) = .int .i64 (sz i) := fun i hi => by
      have h := HK.out.dirs wb cs hw1 i hi
      rw [hcs _ (by omega), hcs _ (by omega)] at h
      exact ⟨Option.some.inj h.1, Option.some.inj h.2⟩
    have hb0 : HD 0 = .int .u64 base := by
      have h := HK.out.base0 wb cs hw1
      rw [hcs 0 (by omega)] at h
      exact Option.some.inj h
    have hplt := hp.1
    have HC := Lib.hid (dirs_any wc P (pe0 HD (.slice (some ⟨gi, 0, none⟩) N N)) hp rv sz hdr base hb0 eE eI eR eT eB eD (SE gi) (SI gi) (SR gi) (ST gi) (SB gi) (SD gi) (HBE.out wc gi P ho hb hplt hne) (HBI.out wc gi P ho hb hplt hne) (HBR.out wc gi P ho hb hplt hne) (HBT.out wc gi P ho hb hplt hne) (HBB.out wc gi P ho hb hplt hne) (HBD.out wc gi P ho hb hplt hne))
    have HPL := Lib.hid hplt
    rw [HFE.out] at HC
    clear hp ho hb hP hgi hne hw1 hdr hb0 hz hplt hcs HFE HBE HBI HBR HBT HBB HBD hsz hsz2 hone
    go_wp2_with fail
    refine HC.out.mono ?_
    rintro e w5 ⟨rfl, hk, hq⟩
    have HKB := Lib.hid hk
    have HQ := Lib.hid hq
    have HZ5 := Lib.hid ((hk.block w.heap.size ⟨lt_of_row' HZ.out, Nat.ne_of_lt HPP.out.1⟩).trans HZ.out)
    have HB5 := Lib.hid (HB.out.trans (hk.below (fun k hk => ⟨Nat.lt_of_lt_of_le hk HB.out.size, by have := HPP.out.1; omega⟩)))
    clear hk hq HC HZ
    by_cases hfe : ¬ FE = 0
    · have e1 : (FE != 0) = true := by simpa using hfe
      go_wp2_with (refine wpList_store_row rfl 50 (.tmp 2) (.tmp 25) rfl w.heap.size _ rfl rfl 50 (peC peZ) HZ5.out (by kernel_rfl) (peC_size _) (by kernel_rfl) ?_; rw [zero_pe])
      exact bodyPost_ret (v := .tuple #[.agg (peC peZ), .int .i64 FE]) (results_cell_tmp rfl _ _ w.heap.size 50 _ (0, 0) _ _ rfl rfl (setRow_heap _ _ _ _ _ _ HZ5.out) Tryz.underlying50 rfl (by rw [peC_size]; kernel_rfl)) rfl ⟨below_setRow HB5.out (Nat.le_refl _) _, .bad hfe⟩
    · have hfe : FE = 0 := Decidable.not_not.1 hfe
      subst hfe
      obtain ⟨y, hy⟩ := HQ.out rfl
      have HY := Lib.hid hy
      have hrg : w5.rangeAt P 0 ((List.range 50).map (peF y)) := fun j v hv => by
        have hj : j < 50 := by
          rcases Nat.lt_or_ge j 50 with hj | hj
          · exact hj
          · simp [hj] at hv
        simp [hj] at hv
        subst hv
        rw [Nat.zero_add, Own.cell hy.pe hj]
      have HRG := Lib.hid hrg
      clear hrg hy HQ
      go_wp2_with (first
        | (refine wpList_load_mid rfl 50 (.tmp 6) rfl P 0 rfl ((List.range 50).map (peF y)) _ HRG.out Tryz.underlying50 rfl (by rw [List.length_map, List.length_range]; kernel_rfl) ?_)
        | (refine wpList_store_row rfl 50 (.tmp 2) (.tmp 27) rfl w.heap.size (peC y) rfl rfl 50 (peC peZ) HZ5.out (by rw [peC_size]; kernel_rfl) (by rw [peC_size, peC_size]) (peC_one y (by rw [HY.out.hd]; exact HHD.out.2) (by rw [HY.out.img]; rfl) HY.out.ones) ?_))
      have hks : Kept (fun k => k ≠ w.heap.size) w5 (w5.setRow w.heap.size (peC y)) := Kept.setRow_ne w5 w.heap.size (peC y)
      have hpl := HPL.out
      have hgk : ∃ wb, HG wb cs ∧ wb.heap[w.heap.size]? = some (.cells (peC peZ) 50 (0, 0)) ∧ Kept (fun k => k < wb.heap.size ∧ k ≠ w.heap.size) wb (w5.setRow w.heap.size (peC y)) := by
        obtain ⟨wb, g1, g2, g3, g4⟩ := HGB.out
        have q1 : Kept (fun k => k < wb.heap.size ∧ k ≠ w.heap.size) wb wc := Kept.of_below g2 (fun k hk => hk.1)
        have q2 := q1.trans (HKB.out.mono (fun k hk => ⟨Nat.lt_of_lt_of_le hk.1 g2.size, by have := hk.1; omega⟩))
        exact ⟨wb, g1, g4, q2.trans (hks.mono (fun k hk => hk.2))⟩
      have hpp := HPP.out
      have ll : ∀ S : World → Prop, Lasts wc.heap.size S w5 → Lasts wc.heap.size S (w5.setRow w.heap.size (peC y)) := fun S h => h.wrote (by omega) hks
      exact bodyPost_ret (v := .tuple #[.agg (peC y), .int .i64 0]) (results_cell_tmp rfl _ _ w.heap.size 50 _ (0, 0) _ _ rfl rfl (setRow_heap _ _ _ _ _ _ HZ5.out) Tryz.underlying50 rfl (by rw [peC_size]; kernel_rfl)) rfl
        ⟨below_setRow HB5.out (Nat.le_refl _) _, .good rfl y cs gi wc.heap.size hgk (fun j hj => by rw [HY.out.hd]; exact HCS.out j hj) HY.out.img ((HO.out.of_block HKB.out.size (HKB.out.block gi ⟨HO.out.lt, hpp.2.2⟩)).setRow (by omega) _) HB.out.size (ll _ HY.out.e) (ll _ HY.out.i) (ll _ HY.out.r) (ll _ HY.out.t) (ll _ HY.out.b) (ll _ HY.out.d)⟩
theorem inFar (A : Option Addr) (n cap k : Nat) (hn : n ≤ 262144) (hk : k ≤ 100) (W : World) : Calls Tryz.prog 113 #[.slice A n cap, .int .i64 1048576, .int .i64 k] W fun e w' => e = .returned (.bool false) ∧ W = w' :=
  rowIn_any A n cap 1048576 k false W (by omega) (by omega) (by omega) ⟨(fun h => by cases h), (fun h => by omega)⟩
theorem noughtsFar (A : Option Addr) (n cap k : Nat) (hn : n ≤ 262144) (hk : k ≤ 100) (w : World) : Calls Tryz.prog 118 #[.slice A n cap, .int .i64 1048576, .int .i64 k] w fun e w' => e = .returned (.bool false) ∧ w = w' := by
  have HIN := Lib.hid (fun W => inFar A n cap k hn hk W)
  go_enter Tryz.func118, Tryz.ntmps118
  go_wp2_with (first | (refine (HIN.out _).mono ?_; rintro e w' ⟨rfl, rfl⟩) | fail)
  go_ret
  exact ⟨rfl, rfl⟩
theorem relZ (A : Option Addr) (n cap : Nat) (sz : Int) (w : World) : Calls Tryz.prog 81 #[.slice A n cap, .agg #[.int .i64 0, .int .i64 sz]] w fun e u => e = .returned (.tuple #[.slice none 0 0, .int .i64 0]) ∧ Below w.heap.size w u := by
  have HB0 := Lib.hid ((Below.refl w.heap.size w).alloc (Nat.le_refl _) (.cells #[.int .i64 0, .int .i64 sz] 37))
  go_enter Tryz.func81, Tryz.ntmps81
  go_wp2_with fail
  go_ret2
  exact ⟨rfl, HB0.out⟩
theorem bndZ (A : Option Addr) (n cap : Nat) (sz : Int) (w : World) : Calls Tryz.prog 83 #[.slice A n cap, .agg #[.int .i64 0, .int .i64 sz]] w fun e u => e = .returned (.tuple #[.slice none 0 0, .int .i64 0]) ∧ Below w.heap.size w u := by
  have HB0 := Lib.hid ((Below.refl w.heap.size w).alloc (Nat.le_refl _) (.cells #[.int .i64 0, .int .i64 sz] 37))
  go_enter Tryz.func83, Tryz.ntmps83
  go_wp2_with fail
  go_ret2
  exact ⟨rfl, HB0.out⟩
theorem expZ (A : Option Addr) (n cap : Nat) (sz : Int) (w : World) : Calls Tryz.prog 79 #[.slice A n cap, .agg #[.int .i64 0, .int .i64 sz]] w fun e w' => e = .returned (.tuple #[.agg #[.int .i64 0, .slice none 0 0, .slice none 0 0], .int .i64 0]) ∧ Below w.heap.size w w' := by
  have HB0 := Lib.hid (((Below.refl w.heap.size w).alloc (Nat.le_refl _) (.cells #[.int .i64 0, .int .i64 sz] 37)).alloc (by simp) (.cells #[.int .i64 0, .slice none 0 0, .slice none 0 0] 45))
  have HZ0 := Lib.hid (heap_alloc_new (w.alloc (.cells #[.int .i64 0, .int .i64 sz] 37)) (.cells #[.int .i64 0, .slice none 0 0, .slice none 0 0] 45))
  have HZS := Lib.hid (show (w.alloc (.cells #[.int .i64 0, .int .i64 sz] 37)).heap.size = w.heap.size + 1 by simp)
  rw [HZS.out] at HZ0
  go_enter Tryz.func79, Tryz.ntmps79
  go_wp2_with (refine wpList_store_row rfl 45 _ _ rfl (w.heap.size + 1) #[.int .i64 0, .slice none 0 0, .slice none 0 0] rfl rfl 45 _ HZ0.out rfl rfl (by simp [Value.oneCell']) ?_)
  exact bodyPost_ret (v := .tuple #[.agg #[.int .i64 0, .slice none 0 0, .slice none 0 0], .int .i64 0]) (results_cell_tmp rfl _ _ (w.heap.size + 1) 45 _ (0, 0) _ _ rfl rfl (setRow_heap _ _ _ _ _ _ HZ0.out) rfl rfl rfl) rfl ⟨rfl, below_setRow HB0.out (by omega) _⟩
theorem tlsZ (A : Option Addr) (n cap : Nat) (sz : Int) (b : Int) (w : World) : Calls Tryz.prog 82 #[.slice A n cap, .agg #[.int .i64 0, .int .i64 sz], .int .u64 b] w fun e w' => e = .returned (.tuple #[.agg #[.bool false, .int .i64 0, .slice none 0 0], .int .i64 0]) ∧ Below w.heap.size w w' := by
  have HB0 := Lib.hid (((Below.refl w.heap.size w).alloc (Nat.le_refl _) (.cells #[.int .i64 0, .int .i64 sz] 37)).alloc (by simp) (.cells #[.bool false, .int .i64 0, .slice none 0 0] 48))
  have HZ0 := Lib.hid (heap_alloc_new (w.alloc (.cells #[.int .i64 0, .int .i64 sz] 37)) (.cells #[.bool false, .int .i64 0, .slice none 0 0] 48))
  have HZS := Lib.hid (show (w.alloc (.cells #[.int .i64 0, .int .i64 sz] 37)).heap.size = w.heap.size + 1 by simp)
  rw [HZS.out] at HZ0
  go_enter Tryz.func82, Tryz.ntmps82
  go_wp2_with (refine wpList_store_row rfl 48 _ _ rfl (w.heap.size + 1) #[.bool false, .int .i64 0, .slice none 0 0] rfl rfl 48 _ HZ0.out rfl rfl (by simp [Value.oneCell']) ?_)
  exact bodyPost_ret (v := .tuple #[.agg #[.bool false, .int .i64 0, .slice none 0 0], .int .i64 0]) (results_cell_tmp rfl _ _ (w.heap.size + 1) 48 _ (0, 0) _ _ rfl rfl (setRow_heap _ _ _ _ _ _ HZ0.out) rfl rfl rfl) rfl ⟨rfl, below_setRow HB0.out (by omega) _⟩
theorem relF (A : Option Addr) (n cap : Nat) (hn : n ≤ 262144) (w : World) : Calls Tryz.prog 81 #[.slice A n cap, .agg #[.int .i64 1048576, .int .i64 64]] w fun e u => e = .returned (.tuple #[.slice none 0 0, .int .i64 9]) ∧ Below w.heap.size w u := by
  have HB0 := Lib.hid ((Below.refl w.heap.size w).alloc (Nat.le_refl _) (.cells #[.int .i64 1048576, .int .i64 64] 37))
  have HIN := Lib.hid (fun W => inFar A n cap 64 hn (by omega) W)
  go_enter Tryz.func81, Tryz.ntmps81
  go_wp2_with (first | (refine (HIN.out _).mono ?_; rintro e w' ⟨rfl, rfl⟩) | fail)
  go_ret2
  exact ⟨rfl, HB0.out⟩
set_option maxHeartbeats 2000000 in
theorem bndF (A : Option Addr) (n cap : Nat) (hn : n ≤ 262144) (w : World) : Calls Tryz.prog 83 #[.slice A n cap, .agg #[.int .i64 1048576, .int .i64 64]] w fun e u => e = .returned (.tuple #[.slice none 0 0, .int .i64 8]) ∧ Below w.heap.size w u := by
  have hb1 : Below w.heap.size w ((w.alloc (.cells #[.int .i64 1048576, .int .i64 64] 37)).alloc (.cells #[] 80)) := ((Below.refl w.heap.size w).alloc (Nat.le_refl _) _).alloc (by simp) _
  have HB1 := Lib.hid hb1
  have HIN := Lib.hid (fun W => inFar A n cap 8 hn (by omega) W)
  have HNO := Lib.hid (fun W => noughtsFar A n cap 8 hn (by omega) W)
  clear hb1
  go_enter Tryz.func83, Tryz.ntmps83
  go_wp2_with fail
  generalize (w.alloc (.cells #[.int .i64 1048576, .int .i64 64] 37)).alloc (.cells #[] 80) = w1 at *
  go_loopw [7, 8] (fun v7 v8 wr => v8 = .int .i64 1048576 ∧ v7 = .int .i64 0 ∧ Below w.heap.size w wr) (fun _ v8 _ => 0)
  case atStart => exact ⟨rfl, rfl, HB1.out⟩
  case round =>
    obtain ⟨rfl, rfl, hb⟩ := hrel
    have HB := Lib.hid hb
    clear hb
    go_wp2_with (first | (refine (HIN.out _).mono ?_; rintro e w' ⟨rfl, rfl⟩) | (refine (HNO.out _).mono ?_; rintro e w' ⟨rfl, rfl⟩) | fail)
    go_ret2
    exact ⟨rfl, HB.out⟩
set_option maxHeartbeats 2000000 in
theorem imp (A : Option Addr) (n cap : Nat) (hn : n ≤ 262144) (w : World) : Calls Tryz.prog 111 #[.slice A n cap, .agg #[.int .i64 1048576, .int .i64 64], .int .i64 20, .func (.func 112) #[] #[]] w fun e u => e = .returned (.tuple #[.slice none 0 0, .int .i64 10]) ∧ Below w.heap.size w u := by
  have hb1 : Below w.heap.size w ((w.alloc (.cells #[.int .i64 1048576, .int .i64 64] 37)).alloc (.cells #[] 78)) := ((Below.refl w.heap.size w).alloc (Nat.le_refl _) _).alloc (by simp) _
  have HB1 := Lib.hid hb1
  have HIN := Lib.hid (fun W => inFar A n cap 20 hn (by omega) W)
  have HNO := Lib.hid (fun W => noughtsFar A n cap 20 hn (by omega) W)
  clear hb1
  go_enter Tryz.func111, Tryz.ntmps111
  go_wp2_with fail
  generalize (w.alloc (.cells #[.int .i64 1048576, .int .i64 64] 37)).alloc (.cells #[] 78) = w1 at *
  go_loopw [11] (fun v11 wr => v11 = .int .i64 1048576 ∧ Below w.heap.size w wr) (fun _ _ => 0)
  case atStart => exact ⟨rfl, HB1.out⟩
  case round =>
    obtain ⟨rfl, hb⟩ := hrel
    have HB := Lib.hid hb
    clear hb
    go_wp2_with (first | (refine (HIN.out _).mono ?_; rintro e w' ⟨rfl, rfl⟩) | (refine (HNO.out _).mono ?_; rintro e w' ⟨rfl, rfl⟩) | fail)
    go_ret2
    exact ⟨rfl, HB.out⟩
theorem imzp (A : Option Addr) (n cap : Nat) (sz : Int) (w : World) : Calls Tryz.prog 111 #[.slice A n cap, .agg #[.int .i64 0, .int .i64 sz], .int .i64 20, .func (.func 112) #[] #[]] w fun e u => e = .returned (.tuple #[.slice none 0 0, .int .i64 0]) ∧ Below w.heap.size w u := by
  have HB0 := Lib.hid ((Below.refl w.heap.size w).alloc (Nat.le_refl _) (.cells #[.int .i64 0, .int .i64 sz] 37))
  go_enter Tryz.func111, Tryz.ntmps111
  go_wp2_with fail
  go_ret2
  exact ⟨rfl, HB0.out⟩
theorem imF (A : Option Addr) (n cap : Nat) (hn : n ≤ 262144) (w : World) : Calls Tryz.prog 80 #[.slice A n cap, .agg #[.int .i64 1048576, .int .i64 64]] w fun e u => e = .returned (.tuple #[.slice none 0 0, .int .i64 10]) ∧ Below w.heap.size w u := by
  have HB0 := Lib.hid ((Below.refl w.heap.size w).alloc (Nat.le_refl _) (.cells #[.int .i64 1048576, .int .i64 64] 37))
  have HP := Lib.hid (fun W => imp A n cap hn W)
  go_enter Tryz.func80, Tryz.ntmps80
  go_wp2_with fail
  refine (HP.out _).mono ?_
  rintro e w2 ⟨rfl, hb⟩
  have HB2 := Lib.hid (HB0.out.trans (hb.mono HB0.out.size))
  clear hb
  go_wp2_with fail
  go_ret2
  exact ⟨rfl, HB2.out⟩
theorem imZ (A : Option Addr) (n cap : Nat) (sz : Int) (w : World) : Calls Tryz.prog 80 #[.slice A n cap, .agg #[.int .i64 0, .int .i64 sz]] w fun e u => e = .returned (.tuple #[.slice none 0 0, .int .i64 0]) ∧ Below w.heap.size w u := by
  have HB0 := Lib.hid ((Below.refl w.heap.size w).alloc (Nat.le_refl _) (.cells #[.int .i64 0, .int .i64 sz] 37))
  have HP := Lib.hid (fun W => imzp A n cap sz W)
  go_enter Tryz.func80, Tryz.ntmps80
  go_wp2_with fail
  refine (HP.out _).mono ?_
  rintro e w2 ⟨rfl, hb⟩
  have HB2 := Lib.hid (HB0.out.trans (hb.mono HB0.out.size))
  clear hb
  go_wp2_with fail
  go_ret2
  exact ⟨rfl, HB2.out⟩
set_option maxHeartbeats 2000000 in
theorem dep (A : Option Addr) (n cap : Nat) (hn : n ≤ 262144) (w : World) : Calls Tryz.prog 111 #[.slice A n cap, .agg #[.int .i64 1048576, .int .i64 64], .int .i64 32, .func (.func 120) #[] #[]] w fun e u => e = .returned (.tuple #[.slice none 0 0, .int .i64 10]) ∧ Below w.heap.size w u := by
  have hb1 : Below w.heap.size w ((w.alloc (.cells #[.int .i64 1048576, .int .i64 64] 37)).alloc (.cells #[] 78)) := ((Below.refl w.heap.size w).alloc (Nat.le_refl _) _).alloc (by simp) _
  have HB1 := Lib.hid hb1
  have HIN := Lib.hid (fun W => inFar A n cap 32 hn (by omega) W)
  have HNO := Lib.hid (fun W => noughtsFar A n cap 32 hn (by omega) W)
  clear hb1
  go_enter Tryz.func111, Tryz.ntmps111
  go_wp2_with fail
  generalize (w.alloc (.cells #[.int .i64 1048576, .int .i64 64] 37)).alloc (.cells #[] 78) = w1 at *
  go_loopw [11] (fun v11 wr => v11 = .int .i64 1048576 ∧ Below w.heap.size w wr) (fun _ _ => 0)
  case atStart => exact ⟨rfl, HB1.out⟩
  case round =>
    obtain ⟨rfl, hb⟩ := hrel
    have HB := Lib.hid hb
    clear hb
    go_wp2_with (first | (refine (HIN.out _).mono ?_; rintro e w' ⟨rfl, rfl⟩) | (refine (HNO.out _).mono ?_; rintro e w' ⟨rfl, rfl⟩) | fail)
    go_ret2
    exact ⟨rfl, HB.out⟩
theorem dezp (A : Option Addr) (n cap : Nat) (sz : Int) (w : World) : Calls Tryz.prog 111 #[.slice A n cap, .agg #[.int .i64 0, .int .i64 sz], .int .i64 32, .func (.func 120) #[] #[]] w fun e u => e = .returned (.tuple #[.slice none 0 0, .int .i64 0]) ∧ Below w.heap.size w u := by
  have HB0 := Lib.hid ((Below.refl w.heap.size w).alloc (Nat.le_refl _) (.cells #[.int .i64 0, .int .i64 sz] 37))
  go_enter Tryz.func111, Tryz.ntmps111
  go_wp2_with fail
  go_ret2
  exact ⟨rfl, HB0.out⟩
theorem deF (A : Option Addr) (n cap : Nat) (hn : n ≤ 262144) (w : World) : Calls Tryz.prog 84 #[.slice A n cap, .agg #[.int .i64 1048576, .int .i64 64]] w fun e u => e = .returned (.tuple #[.slice none 0 0, .int .i64 10]) ∧ Below w.heap.size w u := by
  have HB0 := Lib.hid ((Below.refl w.heap.size w).alloc (Nat.le_refl _) (.cells #[.int .i64 1048576, .int .i64 64] 37))
  have HP := Lib.hid (fun W => dep A n cap hn W)
  go_enter Tryz.func84, Tryz.ntmps84
  go_wp2_with fail
  refine (HP.out _).mono ?_
  rintro e w2 ⟨rfl, hb⟩
  have HB2 := Lib.hid (HB0.out.trans (hb.mono HB0.out.size))
  clear hb
  go_wp2_with fail
  go_ret2
  exact ⟨rfl, HB2.out⟩
theorem deZ (A : Option Addr) (n cap : Nat) (sz : Int) (w : World) : Calls Tryz.prog 84 #[.slice A n cap, .agg #[.int .i64 0, .int .i64 sz]] w fun e u => e = .returned (.tuple #[.slice none 0 0, .int .i64 0]) ∧ Below w.heap.size w u := by
  have HB0 := Lib.hid ((Below.refl w.heap.size w).alloc (Nat.le_refl _) (.cells #[.int .i64 0, .int .i64 sz] 37))
  have HP := Lib.hid (fun W => dezp A n cap sz W)
  go_enter Tryz.func84, Tryz.ntmps84
  go_wp2_with fail
  refine (HP.out _).mono ?_
  rintro e w2 ⟨rfl, hb⟩
  have HB2 := Lib.hid (HB0.out.trans (hb.mono HB0.out.size))
  clear hb
  go_wp2_with fail
  go_ret2
  exact ⟨rfl, HB2.out⟩
theorem tlsF (A : Option Addr) (n cap : Nat) (hn : n ≤ 262144) (b : Int) (w : World) : Calls Tryz.prog 82 #[.slice A n cap, .agg #[.int .i64 1048576, .int .i64 64], .int .u64 b] w fun e w' => e = .returned (.tuple #[.agg #[.bool false, .int .i64 0, .slice none 0 0], .int .i64 12]) ∧ Below w.heap.size w w' := by
  have HB0 := Lib.hid (((Below.refl w.heap.size w).alloc (Nat.le_refl _) (.cells #[.int .i64 1048576, .int .i64 64] 37)).alloc (by simp) (.cells #[.bool false, .int .i64 0, .slice none 0 0] 48))
  have HZ0 := Lib.hid (heap_alloc_new (w.alloc (.cells #[.int .i64 1048576, .int .i64 64] 37)) (.cells #[.bool false, .int .i64 0, .slice none 0 0] 48))
  have HZS := Lib.hid (show (w.alloc (.cells #[.int .i64 1048576, .int .i64 64] 37)).heap.size = w.heap.size + 1 by simp)
  rw [HZS.out] at HZ0
  have HIN := Lib.hid (fun W => inFar A n cap 40 hn (by omega) W)
  go_enter Tryz.func82, Tryz.ntmps82
  go_wp2_with (first | (refine (HIN.out _).mono ?_; rintro e w' ⟨rfl, rfl⟩) | (refine wpList_store_row rfl 48 _ _ rfl (w.heap.size + 1) #[.bool false, .int .i64 0, .slice none 0 0] rfl rfl 48 _ HZ0.out rfl rfl (by simp [Value.oneCell']) ?_))
  exact bodyPost_ret (v := .tuple #[.agg #[.bool false, .int .i64 0, .slice none 0 0], .int .i64 12]) (results_cell_tmp rfl _ _ (w.heap.size + 1) 48 _ (0, 0) _ _ rfl rfl (setRow_heap _ _ _ _ _ _ HZ0.out) rfl rfl rfl) rfl ⟨rfl, below_setRow HB0.out (by omega) _⟩
theorem findF (A : Option Addr) (n cap : Nat) (hn : n ≤ 262144) (w : World) : Calls Tryz.prog 108 #[.slice A n cap, .agg #[.int .i64 1048576, .int .i64 64]] w fun e w' => e = .returned (.tuple #[.agg #[.int .i64 0, .int .i64 0, .int .i64 0, .int .i64 0, .int .i64 0, .int .i64 0], .bool false]) ∧ Below w.heap.size w w' := by
  have HB0 := Lib.hid (((Below.refl w.heap.size w).alloc (Nat.le_refl _) (.cells #[.int .i64 1048576, .int .i64 64] 37)).alloc (by simp) (.cells #[.int .i64 0, .int .i64 0, .int .i64 0, .int .i64 0, .int .i64 0, .int .i64 0] 187))
  have HZ0 := Lib.hid (heap_alloc_new (w.alloc (.cells #[.int .i64 1048576, .int .i64 64] 37)) (.cells #[.int .i64 0, .int .i64 0, .int .i64 0, .int .i64 0, .int .i64 0, .int .i64 0] 187))
  have HZS := Lib.hid (show (w.alloc (.cells #[.int .i64 1048576, .int .i64 64] 37)).heap.size = w.heap.size + 1 by simp)
  rw [HZS.out] at HZ0
  have HIN := Lib.hid (fun W => inFar A n cap 64 hn (by omega) W)
  go_enter Tryz.func108, Tryz.ntmps108
  go_wp2_with (first | (refine (HIN.out _).mono ?_; rintro e w' ⟨rfl, rfl⟩) | (refine wpList_store_row rfl 187 _ _ rfl (w.heap.size + 1) #[.int .i64 0, .int .i64 0, .int .i64 0, .int .i64 0, .int .i64 0, .int .i64 0] rfl rfl 187 _ HZ0.out rfl rfl (by simp [Value.oneCell']) ?_))
  exact bodyPost_ret (v := .tuple #[.agg #[.int .i64 0, .int .i64 0, .int .i64 0, .int .i64 0, .int .i64 0, .int .i64 0], .bool false]) (results_cell_tmp rfl _ _ (w.heap.size + 1) 187 _ (0, 0) _ _ rfl rfl (setRow_heap _ _ _ _ _ _ HZ0.out) rfl rfl rfl) rfl ⟨rfl, below_setRow HB0.out (by omega) _⟩
theorem expF (A : Option Addr) (n cap : Nat) (hn : n ≤ 262144) (w : World) : Calls Tryz.prog 79 #[.slice A n cap, .agg #[.int .i64 1048576, .int .i64 64]] w fun e w' => e = .returned (.tuple #[.agg #[.int .i64 0, .slice none 0 0, .slice none 0 0], .int .i64 11]) ∧ Below w.heap.size w w' := by
  have HB0 := Lib.hid (((Below.refl w.heap.size w).alloc (Nat.le_refl _) (.cells #[.int .i64 1048576, .int .i64 64] 37)).alloc (by simp) (.cells #[.int .i64 0, .slice none 0 0, .slice none 0 0] 45))
  have HZ0 := Lib.hid (heap_alloc_new (w.alloc (.cells #[.int .i64 1048576, .int .i64 64] 37)) (.cells #[.int .i64 0, .slice none 0 0, .slice none 0 0] 45))
  have HZS := Lib.hid (show (w.alloc (.cells #[.int .i64 1048576, .int .i64 64] 37)).heap.size = w.heap.size + 1 by simp)
  rw [HZS.out] at HZ0
  have HF := Lib.hid (fun W => findF A n cap hn W)
  go_enter Tryz.func79, Tryz.ntmps79
  go_wp2_with fail
  generalize (w.alloc (.cells #[.int .i64 1048576, .int .i64 64] 37)).alloc (.cells #[.int .i64 0, .slice none 0 0, .slice none 0 0] 45) = w1 at *
  refine (HF.out _).mono ?_
  rintro e w2 ⟨rfl, hb⟩
  have hlt : w.heap.size + 1 < w1.heap.size := (Array.getElem?_eq_some_iff.1 HZ0.out).1
  have HZ2 := Lib.hid ((hb.block (w.heap.size + 1) hlt).trans HZ0.out)
  have HB2 := Lib.hid (HB0.out.trans (hb.mono HB0.out.size))
  have HL2 := Lib.hid (show w.heap.size + 1 < w2.heap.size by have := hb.size; omega)
  clear hb hlt HB0 HZ0
  have HZ3 := Lib.hid (show ((w2.alloc (.cells #[.int .i64 0, .int .i64 0, .int .i64 0, .int .i64 0, .int .i64 0, .int .i64 0] 187)).setRow w2.heap.size #[.int .i64 0, .int .i64 0, .int .i64 0, .int .i64 0, .int .i64 0, .int .i64 0]).heap[w.heap.size + 1]? = some (.cells #[.int .i64 0, .slice none 0 0, .slice none 0 0] 45 (0, 0)) from (setRow_other _ w2.heap.size (w.heap.size + 1) _ (by have := HL2.out; omega)).trans ((((Below.refl w2.heap.size w2).alloc (Nat.le_refl _) _).block _ HL2.out).trans HZ2.out))
  have HB3 := Lib.hid (show Below w.heap.size w ((w2.alloc (.cells #[.int .i64 0, .int .i64 0, .int .i64 0, .int .i64 0, .int .i64 0, .int .i64 0] 187)).setRow w2.heap.size #[.int .i64 0, .int .i64 0, .int .i64 0, .int .i64 0, .int .i64 0, .int .i64 0]) from below_setRow (HB2.out.alloc HB2.out.size _) HB2.out.size _)
  clear HZ2 HB2
  go_wp2_with (first
    | (refine wpList_store_row rfl 187 (.tmp 6) (.tmp 18) rfl w2.heap.size #[.int .i64 0, .int .i64 0, .int .i64 0, .int .i64 0, .int .i64 0, .int .i64 0] rfl rfl 187 #[.int .i64 0, .int .i64 0, .int .i64 0, .int .i64 0, .int .i64 0, .int .i64 0] (heap_alloc_new _ _) rfl rfl (by simp [Value.oneCell']) ?_; generalize ((w2.alloc (.cells #[.int .i64 0, .int .i64 0, .int .i64 0, .int .i64 0, .int .i64 0, .int .i64 0] 187)).setRow w2.heap.size #[.int .i64 0, .int .i64 0, .int .i64 0, .int .i64 0, .int .i64 0, .int .i64 0]) = w3 at *)
    | (refine wpList_store_row rfl 45 (.tmp 4) (.tmp 22) rfl (w.heap.size + 1) #[.int .i64 0, .slice none 0 0, .slice none 0 0] rfl rfl 45 _ HZ3.out rfl rfl (by simp [Value.oneCell']) ?_))
  exact bodyPost_ret (v := .tuple #[.agg #[.int .i64 0, .slice none 0 0, .slice none 0 0], .int .i64 11]) (results_cell_tmp rfl _ _ (w.heap.size + 1) 45 _ (0, 0) _ _ rfl rfl (setRow_heap _ _ _ _ _ _ HZ3.out) rfl rfl rfl) rfl ⟨rfl, below_setRow HB3.out (by omega) _⟩
theorem SlT.site {w : World} {L : Option Addr} {l : List Site} (h : SlT relC 2 w L l) {i : Nat} (hi : i < l.length) : ∃ b off, L = some ⟨b, off, none⟩ ∧ b < w.heap.size ∧ w.cell? ⟨b, off + i * 2, none⟩ = some (.int .i64 l[i].1) ∧ w.cell? ⟨b, off + i * 2 + 1, none⟩ = some (.int .i64 l[i].2) := by
  rcases h with h | ⟨b, off, rfl, hlt, hc⟩
  · rw [h] at hi; simp at hi
  · exact ⟨b, off, rfl, hlt, by have := hc i hi 0 _ (by simp [relC]; rfl); simpa using this, by have := hc i hi 1 _ (by simp [relC]; rfl); rwa [← Nat.add_assoc] at this⟩
end Go.Proofs.YtplgdpjbkdagfaaGreat
