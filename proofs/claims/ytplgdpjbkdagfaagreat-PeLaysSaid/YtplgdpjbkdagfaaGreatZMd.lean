import Derived.Test.YtplgdpjbkdagfaaGreatZHdrD
import Derived.Test.YtplgdpjbkdagfaaGreatRefPut
import Derived.Test.YtplgdpjbkdagfaaGreatZHdrA
import Derived.Test.YtplgdpjbkdagfaaGreatZAwake1
namespace Go.Proofs.YtplgdpjbkdagfaaGreat
set_option maxRecDepth 100000
open Go.ChangeShapes Go.WideShapes Go.ChangeAt Go.RowKit
set_option linter.unusedVariables false
set_option linter.unusedSimpArgs false
structure OwnC (w : World) (base g n cap : Nat) (f : Nat → Int) : Prop where
  le : base ≤ g
  lt : g < w.heap.size
  row : Row w g 0 n f
  by255 : Bytes255 f
  len : n ≤ cap
  most : cap ≤ 9223372036854775807
  wr : ∀ j, j < cap → (w.cell? ⟨g, j, none⟩).isSome = true ∧ w.frozen? ⟨g, j, none⟩ = false
theorem OwnC.rowB {w : World} {base g n cap : Nat} {f : Nat → Int} (h : OwnC w base g n cap f) : RowB w g 0 n cap f := ⟨h.row, h.by255, h.lt, h.len, h.most⟩
theorem OwnC.of_block {w w' : World} {base g n cap : Nat} {f : Nat → Int} (h : OwnC w base g n cap f) (hs : w.heap.size ≤ w'.heap.size) (hb : w'.heap[g]? = w.heap[g]?) : OwnC w' base g n cap f :=
  ⟨h.le, Nat.lt_of_lt_of_le h.lt hs, fun i hi => (World.cell?_of_block (a := ⟨g, _, none⟩) hb).trans (h.row i hi), h.by255, h.len, h.most, fun j hj => by
    rw [World.cell?_of_block (a := ⟨g, j, none⟩) hb, World.frozen?_of_block (a := ⟨g, j, none⟩) hb]; exact h.wr j hj⟩
theorem OwnC.below {w w' : World} {base g n cap : Nat} {f : Nat → Int} (h : OwnC w base g n cap f) (hb : Below w.heap.size w w') : OwnC w' base g n cap f := h.of_block hb.size (hb.block g h.lt)
theorem OwnC.congr {w : World} {base g n cap : Nat} {f f' : Nat → Int} (h : OwnC w base g n cap f) (h255 : Bytes255 f') (he : ∀ i, i < n → f i = f' i) : OwnC w base g n cap f' :=
  ⟨h.le, h.lt, fun i hi => by rw [h.row i hi, he i hi], h255, h.len, h.most, h.wr⟩
theorem OwnC.bytes (w : World) (S : ByteArray) (cap lo hi : Nat) (h : S.size ≤ cap) (hm : cap ≤ 9223372036854775807) (h1 : cap ≤ lo) :
    OwnC (w.alloc (.cells (bytesRow S cap) 5 (lo, hi))) w.heap.size w.heap.size S.size cap (PlainAid.bt S) := by
  have hz : (bytesRow S cap).size = cap := by
    have : S.data.size = S.size := rfl
    simp [bytesRow]
    omega
  refine ⟨Nat.le_refl _, by simp, fun i hi' => ?_, bt255 S, h, hm, fun j hj => ⟨?_, ?_⟩⟩
  · have hi2 : i < S.data.size := hi'
    rw [Nat.zero_add, World.cell?_alloc_mark w (bytesRow S cap) 5 (lo, hi) i, bytesRow_at S cap i hi2]
    unfold PlainAid.bt
    rw [dif_pos hi']
    rfl
  · rw [World.cell?_alloc_mark w (bytesRow S cap) 5 (lo, hi) j, Array.getElem?_eq_getElem (by omega)]
    rfl
  · rw [World.frozen?_alloc_mark w (bytesRow S cap) 5 lo hi j]
    simp only [Bool.and_eq_false_iff, decide_eq_false_iff_not]
    left
    omega
theorem OwnC.weaken {w : World} {base base' g n cap : Nat} {f : Nat → Int} (h : OwnC w base g n cap f) (hb : base' ≤ base) : OwnC w base' g n cap f := ⟨Nat.le_trans hb h.le, h.lt, h.row, h.by255, h.len, h.most, h.wr⟩
theorem OwnC.drew {w : World} {base g n cap : Nat} {f : Nat → Int} (h : OwnC w base g n cap f) : OwnC w.drew base g n cap f := h.of_block (Nat.le_refl _) rfl
theorem put_any (b n cap : Nat) (f : Nat → Int) (o k : Nat) (v : Int) (w : World) (h : RowB w b 0 n cap f) (hn : n ≤ 1000000) (k1 : 1 ≤ k) (k8 : k ≤ 8) (ho : o + k ≤ n) (v0 : 0 ≤ v) (v1 : v ≤ 18446744073709551615) :
    Calls Tryz.prog 70 #[.slice (some ⟨b, 0, none⟩) n cap, .int .i64 o, .int .i64 k, .int .u64 v] w fun e w' =>
      ∃ g c, e = .returned (.slice (some ⟨g, 0, none⟩) n c) ∧ OwnC w' w.heap.size g n c (putI f o v k) ∧ Below w.heap.size w w' := by
  have hs := run_str (cap := cap) h.row
  have hsz : (strF f 0 n).size = n := strF_size f 0 n
  have hp := rput_yes (strF f 0 n) o k v w (by omega) k1 k8 (by omega) v0 v1
  rw [hsz, strF_congr (f := putI (PlainAid.bt (strF f 0 n)) o v k) (f' := putI f o v k) (o := 0) (o' := 0) (n := n) (fun i hi => by
    unfold putI
    split
    · rfl
    · rw [Nat.zero_add, bt_strF h.by255 hi, Nat.zero_add])] at hp
  have h255 : Bytes255 (putI f o v k) := putI255 h.by255 o v k
  have hsz2 : (strF (putI f o v k) 0 n).size = n := strF_size _ 0 n
  have hbt : ∀ i, i < n → PlainAid.bt (strF (putI f o v k) 0 n) i = putI f o v k i := fun i hi => by rw [bt_strF h255 hi, Nat.zero_add]
  generalize strF (putI f o v k) 0 n = S' at *
  generalize strF f 0 n = S at *
  generalize putI f o v k = f' at *
  have hcv := fun (W : World) => run_bytes_of_string (P := Tryz.prog) W 9 25 5 S' Tryz.underlying9 Tryz.underlying25 Tryz.underlying5
  have HBT := Lib.hid hbt
  have HP := Lib.hid hp
  clear hp hbt hsz h
  go_enter Tryz.func70, Tryz.ntmps70
  go_wp2_with fail
  refine HP.out.mono ?_
  rintro e w1 ⟨rfl, hb1⟩
  go_wp2_with fail
  go_ret
  have hcap := grownCap_ge w1 n 0 5
  have hcm := grownCap_le_maxLen w1 n 0 5 (by simp only [maxLen]; omega)
  simp only [maxLen] at hcm
  have hbz : (bytesRow S' (grownCap w1 n 0 5)).size = grownCap w1 n 0 5 := by
    have : S'.data.size = S'.size := rfl
    simp [bytesRow]
    omega
  have ho := OwnC.bytes w1 S' (grownCap w1 n 0 5) (bytesRow S' (grownCap w1 n 0 5)).size ((bytesRow S' (grownCap w1 n 0 5)).size + 1) (by omega) (by omega) (by omega)
  rw [hsz2] at ho
  exact ⟨_, _, rfl, ((ho.congr h255 HBT.out).weaken hb1.size).drew, (hb1.alloc hb1.size _).drew⟩
def setF (f : Nat → Int) (o : Nat) (v : Int) (j : Nat) : Int := if j = o then v else f j
theorem setF255 {f : Nat → Int} (hf : Bytes255 f) (o : Nat) {v : Int} (h0 : 0 ≤ v) (h1 : v ≤ 255) : Bytes255 (setF f o v) := fun i => by
  unfold setF; split
  · exact ⟨h0, h1⟩
  · exact hf i
theorem OwnC.set {w : World} {base g n cap : Nat} {f : Nat → Int} (h : OwnC w base g n cap f) (o : Nat) (v : Int) (ho : o < n) (h0 : 0 ≤ v) (h1 : v ≤ 255) :
    OwnC (w.setCell ⟨g, o, none⟩ (.int .u8 v)) base g n cap (setF f o v) := by
  refine ⟨h.le, by simpa using h.lt, fun i hi => ?_, setF255 h.by255 o h0 h1, h.len, h.most, fun j hj => ⟨?_, by rw [World.frozen?_setCell]; exact (h.wr j hj).2⟩⟩
  · unfold setF
    rw [Nat.zero_add]
    have hi' := h.row i hi
    rw [Nat.zero_add] at hi'
    by_cases e : i = o
    · subst e
      rw [if_pos rfl, World.cell?_setCell_same _ _ _ hi']
    · rw [if_neg e, World.cell?_setCell_other _ _ _ _ (by intro h; injection h with _ h2; omega)]
      exact hi'
  · obtain ⟨u, hu⟩ := Option.isSome_iff_exists.1 (h.wr j hj).1
    by_cases e : j = o
    · subst e
      rw [World.cell?_setCell_same _ _ _ hu]; rfl
    · rw [World.cell?_setCell_other _ _ _ _ (by intro h; injection h with _ h2; omega), hu]; rfl
theorem wpList_appC {w : World} {ops : Array Oper} {rest : List Oper} {o : Oper} {a : Act} {Q : Exit → Act → World → Prop} (hgd : o.guard = none) (s x : Operand)
    (ho : o.op = .call { callee := .builtin .append, args := #[s, x], argTypes := #[25, 25] })
    {base g n cap m c : Nat} {A : Option Addr} {f h : Nat → Int} (hown : OwnC w base g n cap f) (hsl : SlB w A m h) (h255 : Bytes255 h) (hnm : n + m ≤ 1000000) (hbase : base ≤ w.heap.size)
    (hv : a.eval s = .slice (some ⟨g, 0, none⟩) n cap) (hx : a.eval x = .slice A m c)
    (hK : ∀ g' cap' w', OwnC w' base g' (n + m) cap' (catF n f h) → Below base w w' → wpList Tryz.prog ops Q rest (a.put o.dst (.slice (some ⟨g', 0, none⟩) (n + m) cap')) w') : wpList Tryz.prog ops Q (o :: rest) a w := by
  obtain ⟨i0, hi, hz0, hz1, hz2⟩ := info_parts infoU8
  have hs : Src Tryz.prog i0.size 25 (.slice A m c) m (bytesL m h) w := by rw [hz1]; exact src_sl hsl
  have hrun : ∃ g' cap' w', (Builtin.append_ #[25, 25] o.type #[.slice (some ⟨g, 0, none⟩) n cap, .slice A m c]).run Tryz.prog w = .ok (.slice (some ⟨g', 0, none⟩) (n + m) cap') w' ∧ OwnC w' base g' (n + m) cap' (catF n f h) ∧ Below base w w' := by
    by_cases hroom : n + m ≤ cap
    · have hin : ∀ j, j < (bytesL m h).length → (w.cell? ⟨g, n + j, none⟩).isSome = true := fun j hj => (hown.wr (n + j) (by rw [bytesL_len] at hj; omega)).1
      have hr := run_append_room_src (P := Tryz.prog) w 25 25 o.type 5 i0 Tryz.underlying25 hi g 0 n cap (.slice A m c) m _ hs hroom
        (fun j hj => by rw [hz1, Nat.mul_one, Nat.zero_add]; exact hin j hj) (fun j hj => by rw [hz1, Nat.mul_one, Nat.zero_add]; exact (hown.wr (n + j) (by rw [bytesL_len] at hj; omega)).2)
      rw [hz1, Nat.mul_one, Nat.zero_add] at hr
      refine ⟨_, _, _, hr, ⟨hown.le, by rw [size_setCellsH]; exact hown.lt, fun i hi => ?_, cat255 hown.by255 h255, hroom, hown.most, fun j hj => ⟨World.isSome_setCells _ _ _ _ _ (hown.wr j hj).1, by rw [World.frozen?_setCells]; exact (hown.wr j hj).2⟩⟩, below_setCells hown.le _ _ _ (Below.refl base w)⟩
      unfold catF
      rw [Nat.zero_add]
      by_cases e : i < n
      · rw [if_pos e, World.cell?_setCells_out _ _ _ _ _ (fun _ _ => .inl e)]
        have := hown.row i e
        rwa [Nat.zero_add] at this
      · rw [if_neg e]
        have := World.cell?_setCells_in g (bytesL m h) n w hin (i - n) (by rw [bytesL_len]; omega)
        rw [show n + (i - n) = i by omega] at this
        rw [this]
        simp [bytesL]
    · have hold : (Builtin.firstCells i0.size n (.slice (some ⟨g, 0, none⟩) n cap)).run Tryz.prog w.drew = .ok (bytesL n f).toArray w.drew := by
        rw [hz1]
        refine run_firstCells_some w.drew 1 n ⟨g, 0, none⟩ n cap (bytesL n f) (by rw [bytesL_len, Nat.mul_one]) fun j u hu => ?_
        have hj : j < n := by
          rcases Nat.lt_or_ge j n with hj | hj
          · exact hj
          · rw [List.getElem?_eq_none (by rw [bytesL_len]; omega)] at hu; cases hu
        rw [bytesL_get n f hj] at hu
        injection hu with hu
        subst hu
        have hadd : (⟨g, 0, none⟩ : Addr).add j = ⟨g, 0 + j, none⟩ := by unfold Addr.add; split <;> simp_all
        rw [hadd]
        exact hown.row j hj
      have hr := run_append_grow_src (P := Tryz.prog) w 25 25 o.type 5 i0 (.int .u8 0) Tryz.underlying25 hi hz0 (some ⟨g, 0, none⟩) n cap (bytesL n f) hold (.slice A m c) m _ hs (by omega) (by omega) (growslice_fits (by omega) (by rw [hz2]; omega))
      have hcap := grownCap_ge w (n + m) cap 5
      have hcm := grownCap_le_maxLen w (n + m) cap 5 (by simp only [maxLen]; omega)
      simp only [maxLen] at hcm
      have hz : (Value.int .u8 0).cells = #[.int .u8 0] := rfl
      have hh := heap_alloc_new w.drew (.cells ((bytesL n f ++ bytesL m h).toArray ++ Builtin.zeroCells (Value.int .u8 0).cells (grownCap w (n + m) cap 5 - (n + m))) 5)
      have hsz : ((bytesL n f ++ bytesL m h).toArray ++ Builtin.zeroCells (Value.int .u8 0).cells (grownCap w (n + m) cap 5 - (n + m))).size = grownCap w (n + m) cap 5 := by
        rw [Array.size_append, size_zeroCells, hz]
        simp [bytesL_len]
        omega
      refine ⟨_, _, _, hr, ⟨hbase, by simp, fun i hi => ?_, cat255 hown.by255 h255, hcap, by omega, fun j hj => ⟨?_, frozen_of_row _ _ _ _ _ hh⟩⟩, ((Below.refl base w).drew).alloc (by simpa using hbase) _⟩
      · rw [Nat.zero_add]
        have := cell_of_row _ _ i _ _ _ hh
        refine Eq.trans this ?_
        rw [bytesL_cat, Array.getElem?_append_left (by simpa [bytesL_len] using hi), List.getElem?_toArray, bytesL_get _ _ hi]
      · have := cell_of_row _ _ j _ _ _ hh
        refine Eq.trans (congrArg Option.isSome this) ?_
        rw [Array.getElem?_eq_getElem (by omega)]
        rfl
  refine wpList_plain hgd fun K hK' => ?_
  obtain ⟨g', cap', w', hrun, r1, r2⟩ := hrun
  unfold Oper.wp execOp
  simp only [ho, resolve, invoke, builtin, Sem.run_bind, Sem.run_pure, Result.andThen_ok, List.map_toArray, List.map_cons, List.map_nil, hv, hx, hrun]
  exact hK' _ _ (hK g' cap' w' r1 r2)
def copyF (f : Nat → Int) (o : Nat) (t : ByteArray) (j : Nat) : Int := if o ≤ j ∧ j < o + t.size then PlainAid.bt t (j - o) else f j
theorem copyF255 {f : Nat → Int} (hf : Bytes255 f) (o : Nat) (t : ByteArray) : Bytes255 (copyF f o t) := fun i => by
  unfold copyF; split
  · exact bt255 t _
  · exact hf i
theorem putI_ne {f : Nat → Int} {o k j : Nat} {v : Int} (h : j < o ∨ o + k ≤ j) : putI f o v k j = f j := by unfold putI; rw [if_neg (by omega)]
theorem setF_ne {f : Nat → Int} {o j : Nat} {v : Int} (h : j ≠ o) : setF f o v j = f j := by unfold setF; rw [if_neg h]
theorem copyF_ne {f : Nat → Int} {o j : Nat} {t : ByteArray} (h : j < o ∨ o + t.size ≤ j) : copyF f o t j = f j := by unfold copyF; rw [if_neg (by omega)]
theorem catF_lt {f h : Nat → Int} {n j : Nat} (e : j < n) : catF n f h j = f j := by unfold catF; rw [if_pos e]
theorem rd_put_ne {f : Nat → Int} {o k o' n : Nat} {v : Int} (h : o' + n ≤ o ∨ o + k ≤ o') : rdF (putI f o v k) o' n = rdF f o' n := rdF_congr n o' fun i hi => putI_ne (by omega)
theorem rd_put_eq (f : Nat → Int) (o k : Nat) (v : Int) : rdF (putI f o v k) o k = v % 256 ^ k := by
  have h := rdF_put f v k k o 0 (by omega)
  simpa using h
theorem rd_copy_ne {f : Nat → Int} {o o' n : Nat} {t : ByteArray} (h : o' + n ≤ o ∨ o + t.size ≤ o') : rdF (copyF f o t) o' n = rdF f o' n := rdF_congr n o' fun i hi => copyF_ne (by omega)
theorem rd_cat_lt {f h : Nat → Int} {m o n : Nat} (e : o + n ≤ m) : rdF (catF m f h) o n = rdF f o n := rdF_congr n o fun i hi => catF_lt (by omega)
theorem rd_zero (n : Nat) : ∀ o, rdF (fun _ => 0) o n = 0 := by
  induction n with
  | zero => intro o; rfl
  | succ n ih => intro o; simp [rdF, ih]
abbrev Trip := Int × Int × Int
def tripC (t : Trip) : List Value := [.int .i64 t.1, .int .i64 t.2.1, .int .i64 t.2.2]
def vS (t : Trip) : Int := t.1 % 16384 + 1
def fullS (t : Trip) : Int := roundS (vS t) 4096
def rawS (t : Trip) : Int := t.2.1 % 8192 / 512 * 512 % (fullS t + 512)
def rightS (t : Trip) : Int := t.2.2 % 8
def rvaS (L : Nat → Trip) : Nat → Int
  | 0 => 4096
  | i + 1 => rvaS L i + fullS (L i)
def atS (L : Nat → Trip) : Nat → Nat
  | 0 => 1024
  | i + 1 => atS L i + (rawS (L i)).toNat
theorem vS_bd (t : Trip) : 1 ≤ vS t ∧ vS t ≤ 16384 := by unfold vS; omega
theorem roundS_eq {n : Int} (h : 1 ≤ n) (h2 : n ≤ 1099511627776) : roundS n 4096 = ((n - 1) / 4096 + 1) * 4096 := by
  unfold roundS
  rw [if_neg (by omega), show max (4096 : Int) 1 = 4096 by omega, show min n 1099511627776 = n by omega]
theorem fullS_bd (t : Trip) : 4096 ≤ fullS t ∧ fullS t ≤ 16384 ∧ fullS t % 4096 = 0 ∧ vS t ≤ fullS t := by
  have h := vS_bd t
  unfold fullS
  rw [roundS_eq (by omega) (by omega)]
  omega
theorem rawS_bd (t : Trip) : 0 ≤ rawS t ∧ rawS t < 8192 ∧ rawS t % 512 = 0 ∧ rawS t ≤ fullS t := by
  have h := fullS_bd t
  unfold rawS
  generalize fullS t = r at *
  obtain ⟨k, hk⟩ : ∃ k, r = 4096 * k := ⟨r / 4096, by omega⟩
  subst hk
  obtain ⟨a, ha⟩ : ∃ a, t.2.1 % 8192 / 512 = a := ⟨_, rfl⟩
  have h1 : 0 ≤ a ∧ a < 16 := by omega
  rw [ha]
  have h2 : 1 ≤ k ∧ k ≤ 4 := by omega
  have h3 := Int.emod_nonneg (a * 512) (show 4096 * k + 512 ≠ 0 by omega)
  have h4 := Int.emod_lt_of_pos (a * 512) (show (0 : Int) < 4096 * k + 512 by omega)
  have h5 := Int.emod_add_mul_ediv (a * 512) (4096 * k + 512)
  rcases (by omega : k = 1 ∨ k = 2 ∨ k = 3 ∨ k = 4) with rfl | rfl | rfl | rfl <;> omega
theorem rightS_bd (t : Trip) : 0 ≤ rightS t ∧ rightS t < 8 := by unfold rightS; omega
theorem rvaS_bd (L : Nat → Trip) (i : Nat) : 4096 ≤ rvaS L i ∧ rvaS L i ≤ 4096 + 16384 * i ∧ rvaS L i % 4096 = 0 := by
  induction i with
  | zero => simp [rvaS]
  | succ i ih => have := fullS_bd (L i); simp only [rvaS]; omega
theorem atS_bd (L : Nat → Trip) (i : Nat) : 1024 ≤ atS L i ∧ atS L i ≤ 1024 + 8192 * i ∧ atS L i % 512 = 0 := by
  induction i with
  | zero => simp [atS]
  | succ i ih => have := rawS_bd (L i); simp only [atS]; omega
theorem atS_mono (L : Nat → Trip) {i j : Nat} (h : i ≤ j) : atS L i ≤ atS L j := by
  induction j with
  | zero => obtain rfl : i = 0 := by omega
            exact Nat.le_refl _
  | succ j ih =>
    rcases Nat.lt_or_ge j i with h1 | h1
    · obtain rfl : i = j + 1 := by omega
      exact Nat.le_refl _
    · have := ih h1
      simp only [atS]
      omega
structure MadeH (f : Nat → Int) (n : Int) : Prop where
  m0 : f 0 = 77
  m1 : f 1 = 90
  pe : rdF f 60 4 = 64
  p0 : f 64 = 80
  p1 : f 65 = 69
  p2 : f 66 = 0
  p3 : f 67 = 0
  mach : rdF f 68 2 = 34404
  cnt : rdF f 70 2 = n
  stamp : rdF f 72 4 = 77
  opt : rdF f 84 2 = 240
  chars : rdF f 86 2 = 8226
  mg : rdF f 88 2 = 523
  ent : rdF f 104 4 = 0
  base : rdF f 112 8 = 65536
  al : rdF f 120 4 = 4096
  fal : rdF f 124 4 = 512
  hdrs : rdF f 148 4 = 1024
  nd : rdF f 196 4 = 16
  dirs : ∀ i, i < 32 → rdF f (200 + 4 * i) 4 = 0
theorem MadeH.congr {f f' : Nat → Int} {n : Int} (h : MadeH f n) (e : ∀ q, q < 328 → (q < 144 ∨ 148 ≤ q) → f' q = f q) : MadeH f' n := by
  have k : ∀ o m, o + m ≤ 328 → (o + m ≤ 144 ∨ 148 ≤ o) → rdF f' o m = rdF f o m := fun o m h1 h2 => rdF_congr m o fun i hi => e _ (by omega) (by omega)
  exact ⟨(e 0 (by omega) (by omega)).trans h.m0, (e 1 (by omega) (by omega)).trans h.m1, (k _ _ (by omega) (by omega)).trans h.pe, (e _ (by omega) (by omega)).trans h.p0, (e _ (by omega) (by omega)).trans h.p1, (e _ (by omega) (by omega)).trans h.p2, (e _ (by omega) (by omega)).trans h.p3,
    (k _ _ (by omega) (by omega)).trans h.mach, (k _ _ (by omega) (by omega)).trans h.cnt, (k _ _ (by omega) (by omega)).trans h.stamp, (k _ _ (by omega) (by omega)).trans h.opt, (k _ _ (by omega) (by omega)).trans h.chars, (k _ _ (by omega) (by omega)).trans h.mg, (k _ _ (by omega) (by omega)).trans h.ent, (k _ _ (by omega) (by omega)).trans h.base,
    (k _ _ (by omega) (by omega)).trans h.al, (k _ _ (by omega) (by omega)).trans h.fal, (k _ _ (by omega) (by omega)).trans h.hdrs, (k _ _ (by omega) (by omega)).trans h.nd, fun i hi => (k _ _ (by omega) (by omega)).trans (h.dirs i hi)⟩
def preF (n : Int) : Nat → Int :=
  putI (putI (putI (putI (putI (putI (putI (putI (putI (putI (putI (copyF (putI (copyF (fun _ => 0) 0 ⟨#[77, 90]⟩) 60 64 4) 64 ⟨#[80, 69, 0, 0]⟩) 68 34404 2) 70 n 2) 72 77 4) 84 240 2) 86 8226 2) 88 523 2) 112 65536 8) 120 4096 4) 124 512 4) 148 1024 4) 196 16 4
theorem preF_head (n : Int) (h0 : 0 ≤ n) (h1 : n < 65536) : MadeH (preF n) n := by
  have z1 : (⟨#[77, 90]⟩ : ByteArray).size = 2 := rfl
  have z2 : (⟨#[80, 69, 0, 0]⟩ : ByteArray).size = 4 := rfl
  have hn : n % 256 ^ 2 = n := by rw [show (256 : Int) ^ 2 = 65536 by rfl]; omega
  unfold preF
  refine ⟨?_, ?_, ?_, ?_, ?_, ?_, ?_, ?_, ?_, ?_, ?_, ?_, ?_, ?_, ?_, ?_, ?_, ?_, ?_, fun i hi => ?_⟩
  all_goals simp (disch := omega) only [rd_put_ne, rd_put_eq, putI_ne, rd_copy_ne, copyF_ne, rd_zero, hn]
  all_goals first | rfl | skip
theorem preF_nul (n : Int) (q : Nat) (h : 328 ≤ q) : preF n q = 0 := by
  have z1 : (⟨#[77, 90]⟩ : ByteArray).size = 2 := rfl
  have z2 : (⟨#[80, 69, 0, 0]⟩ : ByteArray).size = 4 := rfl
  unfold preF
  simp (disch := omega) only [putI_ne, copyF_ne]
structure SecF (f : Nat → Int) (o : Nat) (v rva raw spot r : Int) (i : Nat) : Prop where
  n0 : f o = 115
  n1 : f (o + 1) = 48 + i
  nz : ∀ q, 2 ≤ q → q < 8 → f (o + q) = 0
  v : rdF f (o + 8) 4 = v
  rva : rdF f (o + 12) 4 = rva
  raw : rdF f (o + 16) 4 = raw
  spot : rdF f (o + 20) 4 = spot
  r : rdF f (o + 36) 4 = r * 536870912
theorem SecF.congr {f f' : Nat → Int} {o : Nat} {v rva raw spot r : Int} {i : Nat} (h : SecF f o v rva raw spot r i) (e : ∀ q, o ≤ q → q < o + 40 → f' q = f q) : SecF f' o v rva raw spot r i := by
  have k : ∀ d, d + 4 ≤ 40 → rdF f' (o + d) 4 = rdF f (o + d) 4 := fun d h1 => rdF_congr 4 _ fun i hi => e _ (by omega) (by omega)
  exact ⟨(e _ (by omega) (by omega)).trans h.n0, (e _ (by omega) (by omega)).trans h.n1, fun q h1 h2 => (e _ (by omega) (by omega)).trans (h.nz q h1 h2), (k _ (by omega)).trans h.v, (k _ (by omega)).trans h.rva, (k _ (by omega)).trans h.raw, (k _ (by omega)).trans h.spot, (k _ (by omega)).trans h.r⟩
structure MadeI (L : Nat → Trip) (n : Int) (i : Nat) (f : Nat → Int) : Prop where
  hd : MadeH f n
  sec : ∀ j, j < i → SecF f (328 + 40 * j) (vS (L j)) (rvaS L j) (rawS (L j)) (atS L j) (rightS (L j)) j
  dat : ∀ (j k : Nat), j < i → (k : Int) < rawS (L j) → f (atS L j + k) = (7 * k + j + 1) % 256
  nul : ∀ q, 328 + 40 * i ≤ q → q < 1024 → f q = 0
theorem MadeI.start (L : Nat → Trip) (n : Int) (h0 : 0 ≤ n) (h1 : n < 65536) : MadeI L n 0 (preF n) :=
  ⟨preF_head n h0 h1, fun j hj => by omega, fun j k hj => by omega, fun q h _ => preF_nul n q (by omega)⟩
def secF (L : Nat → Trip) (i : Nat) (f h : Nat → Int) : Nat → Int :=
  catF (atS L i) (putI (putI (putI (putI (putI (setF (setF f (328 + 40 * i) 115) (328 + 40 * i + 1) (48 + i)) (328 + 40 * i + 8) (vS (L i)) 4) (328 + 40 * i + 12) (rvaS L i) 4) (328 + 40 * i + 16) (rawS (L i)) 4) (328 + 40 * i + 20) (atS L i) 4) (328 + 40 * i + 36) (rightS (L i) * 536870912) 4) h
theorem MadeI.next {L : Nat → Trip} {n : Int} {i : Nat} {f : Nat → Int} (x : MadeI L n i f) (hi : i < 6) (h : Nat → Int) (hh : ∀ k : Nat, (k : Int) < rawS (L i) → h k = (7 * k + i + 1) % 256) :
    MadeI L n (i + 1) (secF L i f h) := by
  have ha := atS_bd L i
  have hv := vS_bd (L i)
  have hr := rvaS_bd L i
  have hw := rawS_bd (L i)
  have hg := rightS_bd (L i)
  have hlow : ∀ q, q < 328 + 40 * i → secF L i f h q = f q := fun q hq => by
    unfold secF
    simp (disch := omega) only [catF_lt, putI_ne, setF_ne]
  have hmid : ∀ q, 368 + 40 * i ≤ q → q < atS L i → secF L i f h q = f q := fun q h1 h2 => by
    unfold secF
    simp (disch := omega) only [catF_lt, putI_ne, setF_ne]
  refine ⟨x.hd.congr fun q h1 _ => hlow q (by omega), fun j hj => ?_, fun j k hj hk => ?_, fun q h1 h2 => ?_⟩
  · by_cases e : j = i
    · subst e
      have hpow : (256 : Int) ^ 4 = 4294967296 := rfl
      refine ⟨?_, ?_, fun q h1 h2 => ?_, ?_, ?_, ?_, ?_, ?_⟩
      all_goals unfold secF
      · simp (disch := omega) only [catF_lt, putI_ne, setF_ne]; simp [setF]
      · simp (disch := omega) only [catF_lt, putI_ne]; simp [setF]
      · simp (disch := omega) only [catF_lt, putI_ne, setF_ne]
        exact x.nul _ (by omega) (by omega)
      all_goals
        simp (disch := omega) only [rd_cat_lt, rd_put_ne, rd_put_eq, hpow]
        omega
    · exact (x.sec j (by omega)).congr fun q h1 h2 => hlow q (by omega)
  · by_cases e : j = i
    · subst e
      unfold secF catF
      rw [if_neg (by omega), show atS L j + k - atS L j = k by omega]
      exact hh k hk
    · have h1 := atS_mono L (show j + 1 ≤ i by omega)
      simp only [atS] at h1
      have h2 := atS_bd L j
      rw [hmid _ (by omega) (by omega)]
      exact x.dat j k (by omega) hk
  · rw [hmid q (by omega) (by omega)]
    exact x.nul q (by omega) h2
structure MadeP (L : Nat → Trip) (n : Nat) (f : Nat → Int) : Prop where
  all : MadeI L n n f
  size : rdF f 144 4 = rvaS L n
theorem MadeI.done {L : Nat → Trip} {n : Nat} {f : Nat → Int} (x : MadeI L n n f) (hn : n ≤ 6) : MadeP L n (putI f 144 (rvaS L n) 4) := by
  have hr := rvaS_bd L n
  refine ⟨⟨x.hd.congr fun q _ h => putI_ne (by omega), fun j hj => (x.sec j hj).congr fun q h1 h2 => putI_ne (by omega), fun j k hj hk => ?_, fun q h1 h2 => ?_⟩, ?_⟩
  · have := atS_bd L j
    rw [putI_ne (by omega)]
    exact x.dat j k hj hk
  · rw [putI_ne (by omega)]
    exact x.nul q h1 h2
  · rw [rd_put_eq, show (256 : Int) ^ 4 = 4294967296 by rfl]
    omega
theorem OwnC.made (w : World) (n : Nat) (hn : n ≤ 9223372036854775807) : OwnC (w.alloc (.cells (madeCells (Value.int .u8 0).cells n) 5)) w.heap.size w.heap.size n n (fun _ => 0) := by
  have h := own_made w 5 n (.int .u8 0) rfl
  exact ⟨Nat.le_refl _, by simp, fun i hi => by rw [Nat.zero_add]; exact h.cell hi, fun _ => by omega, Nat.le_refl _, hn, fun j hj => ⟨by rw [h.cell hj]; rfl, h.frozen hj⟩⟩
theorem wpList_makeC {w : World} {ops : Array Oper} {rest : List Oper} {o : Oper} {a : Act} {Q : Exit → Act → World → Prop}
    (hg : o.guard = none) (l c : Operand) (hop : o.op = Op.makeSlice 25 l c) (base : Nat) (kl kc : IntKind) (n : Nat) (hl : a.eval l = .int kl n) (hc : a.eval c = .int kc n) (b2 : n ≤ 281474976710656) (b4 : base ≤ w.heap.size)
    (hK : ∀ w', OwnC w' base w.heap.size n n (fun _ => 0) → Below w.heap.size w w' → w'.heap.size = w.heap.size + 1 → wpList Tryz.prog ops Q rest (a.put o.dst (.slice (some ⟨w.heap.size, 0, none⟩) n n)) w') :
    wpList Tryz.prog ops Q (o :: rest) a w := by
  obtain ⟨i0, hi, hz0, hz1, hz2⟩ := info_parts infoU8
  refine wpList_plain hg fun K hK' => ?_
  have hbb : (i0.bytes : Int) * (n : Int) ≤ 281474976710656 := by rw [hz2]; omega
  have hrun := run_make (P := Tryz.prog) w 25 5 i0 (.int .u8 0) Tryz.underlying25 hi hz0 kl kc n n (by omega) (Int.le_refl _) hbb (by omega)
  rw [hz1] at hrun
  simp only [Int.toNat_natCast, Nat.mul_one] at hrun
  unfold Oper.wp
  simp [execOp, hop, hl, hc, hrun, Result.andThen]
  exact hK' _ _ (hK _ ((OwnC.made w n (by omega)).weaken b4) ((Below.refl w.heap.size w).alloc (Nat.le_refl _) _) (by simp))
theorem below_setCells' {B : Nat} {a : World} {g : Nat} (hg : B ≤ g) (vs : List Value) (o : Nat) (w : World) (h : Below B a w) : Below B a (w.setCells g o vs) := below_setCells hg vs o w h
theorem wpList_copyC {w : World} {ops : Array Oper} {rest : List Oper} {o : Oper} {a : Act} {Q : Exit → Act → World → Prop} (hgd : o.guard = none) (d x : Operand)
    (ho : o.op = .call { callee := .builtin .copy, args := #[d, x], argTypes := #[25, 9] })
    {base g n cap off len c : Nat} {t : ByteArray} {f : Nat → Int} (hown : OwnC w base g n cap f) (hle : t.size ≤ len) (hfit : off + t.size ≤ n)
    (hd : a.eval d = .slice (some ⟨g, off, none⟩) len c) (hx : a.eval x = .string t)
    (hK : ∀ w', OwnC w' base g n cap (copyF f off t) → Below base w w' → w'.heap.size = w.heap.size → wpList Tryz.prog ops Q rest (a.put o.dst (goInt t.size)) w') : wpList Tryz.prog ops Q (o :: rest) a w := by
  obtain ⟨i0, hi, hz0, hz1, hz2⟩ := info_parts infoU8
  have hl : (t.data.toList.map fun x => Value.int .u8 (x.toNat : Int)).length = t.size := by rw [List.length_map]; rfl
  have hlen := hown.len
  have hin : ∀ j, j < t.size → (w.cell? ⟨g, off + j, none⟩).isSome = true := fun j hj => (hown.wr (off + j) (by omega)).1
  have hrun := run_copy_string (P := Tryz.prog) w 25 9 o.type 5 g off len c t Tryz.underlying25 (fun w => by simp [sizeOf, typeInfo, hi, hz1]) hle hin (fun j hj => (hown.wr (off + j) (by omega)).2)
  refine wpList_plain hgd fun K hK' => ?_
  unfold Oper.wp execOp
  simp only [ho, resolve, invoke, builtin, Sem.run_bind, Sem.run_pure, Result.andThen_ok, List.map_toArray, List.map_cons, List.map_nil, hd, hx, hrun]
  refine hK' _ _ (hK _ ⟨hown.le, by rw [size_setCellsH]; exact hown.lt, fun i hi' => ?_, copyF255 hown.by255 off t, hown.len, hown.most, fun j hj => ⟨World.isSome_setCells _ _ _ _ _ (hown.wr j hj).1, by rw [World.frozen?_setCells]; exact (hown.wr j hj).2⟩⟩ (below_setCells' hown.le _ _ _ (Below.refl base w)) (size_setCellsH _ _ _ _))
  rw [Nat.zero_add]
  unfold copyF
  by_cases e : off ≤ i ∧ i < off + t.size
  · rw [if_pos e]
    have := World.cell?_setCells_in g (t.data.toList.map fun x => Value.int .u8 (x.toNat : Int)) off w (by rw [hl]; exact hin) (i - off) (by rw [hl]; omega)
    rw [show off + (i - off) = i by omega] at this
    rw [this]
    have h2 : i - off < t.data.size := by have : t.data.size = t.size := rfl; omega
    have h3 : i - off < t.size := h2
    unfold PlainAid.bt
    rw [dif_pos h3]
    simp
    rfl
  · rw [if_neg e, World.cell?_setCells_out _ _ _ _ _ (fun _ _ => by rw [hl]; show i < off ∨ off + t.size ≤ i; omega)]
    have := hown.row i hi'
    rwa [Nat.zero_add] at this
theorem put_at (base b n cap : Nat) (f : Nat → Int) (o' k' : Int) (o k : Nat) (v : Int) (w : World) (h : OwnC w base b n cap f) (hb : base ≤ w.heap.size) (eo : o' = o) (ek : k' = k) (hn : n ≤ 1000000) (k1 : 1 ≤ k) (k8 : k ≤ 8) (ho : o + k ≤ n) (v0 : 0 ≤ v) (v1 : v ≤ 18446744073709551615) :
    Calls Tryz.prog 70 #[.slice (some ⟨b, 0, none⟩) n cap, .int .i64 o', .int .i64 k', .int .u64 v] w fun e w' =>
      ∃ g c, e = .returned (.slice (some ⟨g, 0, none⟩) n c) ∧ OwnC w' base g n c (putI f o v k) ∧ Below w.heap.size w w' := by
  subst eo ek
  refine (put_any b n cap f o k v w h.rowB hn k1 k8 ho v0 v1).mono ?_
  rintro e w' ⟨g, c, rfl, h1, h2⟩
  exact ⟨g, c, rfl, h1.weaken hb, h2⟩
theorem and_3fff (n : Int) : bits .and .i64 n 16383 = n % 16384 := i64_mask n 14 (by omega)
theorem and_1fff (n : Int) : bits .and .i64 n 8191 = n % 8192 := i64_mask n 13 (by omega)
set_option maxRecDepth 100000 in
set_option maxHeartbeats 4000000 in
theorem made_any (AS : Option Addr) (l : List Trip) (cs : Nat) (L : Nat → Trip) (hL : ∀ i, l[i]? = some (L i) ∨ l.length ≤ i) (w : World) (hl : 1 ≤ l.length) (hS : SlT tripC 3 w AS l) :
    Calls Tryz.prog 25 #[.slice AS l.length cs, .slice none 0 0] w fun e w' =>
      ∃ g c F, e = .returned (.slice (some ⟨g, 0, none⟩) (atS L (min l.length 6)) c) ∧ OwnC w' w.heap.size g (atS L (min l.length 6)) c F ∧ MadeP L (min l.length 6) F ∧ Below w.heap.size w w' := by
  have HL := Lib.hid hL
  have hlen : ((l.length : Int) == 0) = false := by rw [beq_eq_false_iff_ne]; omega
  have hmin : min (l.length : Int) 6 = ((min l.length 6 : Nat) : Int) := by omega
  obtain ⟨b, off, hAS, hblt, hcel⟩ : ∃ b off, AS = some ⟨b, off, none⟩ ∧ b < w.heap.size ∧ ∀ (i : Nat) (hi : i < l.length) (j : Nat) (v : Value), (tripC l[i])[j]? = some v → w.cell? ⟨b, off + (i * 3 + j), none⟩ = some v := by
    rcases hS with h | h
    · rw [h] at hl; simp at hl
    · exact h
  subst hAS
  have HCL := Lib.hid hcel
  have HBLT := Lib.hid hblt
  clear hS hL hcel hblt
  go_enter Tryz.func25, Tryz.ntmps25
  go_wp2_with (first
    | (at_make; refine wpList_makeC rfl _ _ rfl w.heap.size .i64 .i64 1024 rfl rfl (by omega) (Nat.le_refl _) ?_; intro w1 ho hb hs; have HO1 := Lib.hid ho; have HB1 := Lib.hid hb; clear ho hb hs)
    | (refine wpList_copyC rfl _ _ rfl (off := 0) (t := ⟨#[77, 90]⟩) HO1.out (by decide) (by decide) rfl rfl ?_; intro w2 ho hb hs; have HO2 := Lib.hid ho; have HB2 := Lib.hid (HB1.out.trans (hb.mono (Nat.le_refl _))); clear ho hb hs HO1 HB1))
  refine (put_at w.heap.size _ _ _ _ _ _ 60 4 64 _ HO2.out HB2.out.size rfl rfl (by omega) (by omega) (by omega) (by omega) (by omega) (by omega)).mono ?_
  rintro e w3 ⟨g3, c3, rfl, ho, hb⟩
  have HO3 := Lib.hid ho
  have HB3 := Lib.hid (HB2.out.trans (hb.mono HB2.out.size))
  clear ho hb HO2 HB2
  have hc3 := HO3.out.len
  go_wp2_with (refine wpList_copyC rfl _ _ rfl (off := 64) (t := ⟨#[80, 69, 0, 0]⟩) HO3.out (by decide) (by decide) rfl rfl ?_; intro w4 ho hb hs; have HO4 := Lib.hid ho; have HB4 := Lib.hid (HB3.out.trans (hb.mono (Nat.le_refl _))); clear ho hb hs HO3 HB3)
  refine (put_at w.heap.size _ _ _ _ _ _ 68 2 34404 _ HO4.out HB4.out.size rfl rfl (by omega) (by omega) (by omega) (by omega) (by omega) (by omega)).mono ?_
  rintro e w5 ⟨g5, c5, rfl, ho, hb⟩
  have HO5 := Lib.hid ho
  have HB5 := Lib.hid (HB4.out.trans (hb.mono HB4.out.size))
  clear ho hb HO4 HB4
  go_wp2_with fail
  refine (put_at w.heap.size _ _ _ _ _ _ 70 2 ((min l.length 6 : Nat) : Int) _ HO5.out HB5.out.size rfl rfl (by omega) (by omega) (by omega) (by omega) (by omega) (by omega)).mono ?_
  rintro e w6 ⟨g6, c6, rfl, ho, hb⟩
  have HO6 := Lib.hid ho
  have HB6 := Lib.hid (HB5.out.trans (hb.mono HB5.out.size))
  clear ho hb HO5 HB5
  go_wp2_with fail
  refine (put_at w.heap.size _ _ _ _ _ _ 72 4 77 _ HO6.out HB6.out.size rfl rfl (by omega) (by omega) (by omega) (by omega) (by omega) (by omega)).mono ?_
  rintro e w7 ⟨g7, c7, rfl, ho, hb⟩
  have HO7 := Lib.hid ho
  have HB7 := Lib.hid (HB6.out.trans (hb.mono HB6.out.size))
  clear ho hb HO6 HB6
  go_wp2_with fail
  refine (put_at w.heap.size _ _ _ _ _ _ 84 2 240 _ HO7.out HB7.out.size rfl rfl (by omega) (by omega) (by omega) (by omega) (by omega) (by omega)).mono ?_
  rintro e w8 ⟨g8, c8, rfl, ho, hb⟩
  have HO8 := Lib.hid ho
  have HB8 := Lib.hid (HB7.out.trans (hb.mono HB7.out.size))
  clear ho hb HO7 HB7
  go_wp2_with fail
  refine (put_at w.heap.size _ _ _ _ _ _ 86 2 8226 _ HO8.out HB8.out.size rfl rfl (by omega) (by omega) (by omega) (by omega) (by omega) (by omega)).mono ?_
  rintro e w9 ⟨g9, c9, rfl, ho, hb⟩
  have HO9 := Lib.hid ho
  have HB9 := Lib.hid (HB8.out.trans (hb.mono HB8.out.size))
  clear ho hb HO8 HB8
  go_wp2_with fail
  refine (put_at w.heap.size _ _ _ _ _ _ 88 2 523 _ HO9.out HB9.out.size rfl rfl (by omega) (by omega) (by omega) (by omega) (by omega) (by omega)).mono ?_
  rintro e w10 ⟨g10, c10, rfl, ho, hb⟩
  have HO10 := Lib.hid ho
  have HB10 := Lib.hid (HB9.out.trans (hb.mono HB9.out.size))
  clear ho hb HO9 HB9
  go_wp2_with fail
  refine (put_at w.heap.size _ _ _ _ _ _ 112 8 65536 _ HO10.out HB10.out.size rfl rfl (by omega) (by omega) (by omega) (by omega) (by omega) (by omega)).mono ?_
  rintro e w11 ⟨g11, c11, rfl, ho, hb⟩
  have HO11 := Lib.hid ho
  have HB11 := Lib.hid (HB10.out.trans (hb.mono HB10.out.size))
  clear ho hb HO10 HB10
  go_wp2_with fail
  refine (put_at w.heap.size _ _ _ _ _ _ 120 4 4096 _ HO11.out HB11.out.size rfl rfl (by omega) (by omega) (by omega) (by omega) (by omega) (by omega)).mono ?_
  rintro e w12 ⟨g12, c12, rfl, ho, hb⟩
  have HO12 := Lib.hid ho
  have HB12 := Lib.hid (HB11.out.trans (hb.mono HB11.out.size))
  clear ho hb HO11 HB11
  go_wp2_with fail
  refine (put_at w.heap.size _ _ _ _ _ _ 124 4 512 _ HO12.out HB12.out.size rfl rfl (by omega) (by omega) (by omega) (by omega) (by omega) (by omega)).mono ?_
  rintro e w13 ⟨g13, c13, rfl, ho, hb⟩
  have HO13 := Lib.hid ho
  have HB13 := Lib.hid (HB12.out.trans (hb.mono HB12.out.size))
  clear ho hb HO12 HB12
  go_wp2_with fail
  refine (put_at w.heap.size _ _ _ _ _ _ 148 4 1024 _ HO13.out HB13.out.size rfl rfl (by omega) (by omega) (by omega) (by omega) (by omega) (by omega)).mono ?_
  rintro e w14 ⟨g14, c14, rfl, ho, hb⟩
  have HO14 := Lib.hid ho
  have HB14 := Lib.hid (HB13.out.trans (hb.mono HB13.out.size))
  clear ho hb HO13 HB13
  go_wp2_with fail
  refine (put_at w.heap.size _ _ _ _ _ _ 196 4 16 _ HO14.out HB14.out.size rfl rfl (by omega) (by omega) (by omega) (by omega) (by omega) (by omega)).mono ?_
  rintro e w15 ⟨g15, c15, rfl, ho, hb⟩
  have HO15 := Lib.hid ho
  have HB15 := Lib.hid (HB14.out.trans (hb.mono HB14.out.size))
  clear ho hb HO14 HB14
  go_wp2_with fail
  have HF := Lib.hid (MadeI.start L ((min l.length 6 : Nat) : Int) (by omega) (by omega))
  have hN1 : min l.length 6 ≤ l.length := by omega
  have hN2 : min l.length 6 ≤ 6 := by omega
  have hN3 : 1 ≤ min l.length 6 := by omega
  have HOL : Hid (OwnC w15 w.heap.size g15 1024 c15 (preF ((min l.length 6 : Nat) : Int))) := HO15
  clear HO15 hmin
  obtain ⟨N, hNN⟩ : ∃ N, min l.length 6 = N := ⟨_, rfl⟩
  have HNN := Lib.hid hNN
  simp only [hNN] at hN1 hN2 hN3 HF HOL ⊢
  clear hNN
  go_loopw [6, 7, 8, 9, 10, 11, 12, 13, 14] (fun o6 o7 o8 _ _ _ _ _ _ wr => ∃ (i g c : Nat) (F : Nat → Int), i ≤ N ∧ o6 = .slice (some ⟨g, 0, none⟩) (atS L i) c ∧ o7 = .int .i64 (rvaS L i) ∧ o8 = .int .i64 i ∧ OwnC wr w.heap.size g (atS L i) c F ∧ MadeI L N i F ∧ Below w.heap.size w wr) (fun _ _ o8 _ _ _ _ _ _ _ => N - (intOf o8).toNat)
  case atStart => exact ⟨0, g15, c15, _, by omega, rfl, rfl, rfl, HOL.out, HF.out, HB15.out⟩
  case round =>
    obtain ⟨i, g, c, F, hi, rfl, rfl, rfl, ho, hF, hb⟩ := hrel
    have HO := Lib.hid ho
    have HF := Lib.hid hF
    have HB := Lib.hid hb
    clear ho hF hb HOL HB15
    by_cases hlt : i < N
    · have hlt' : (i : Int) < N := by omega
      have hil : i < l.length := by omega
      have hLi : l[i] = L i := by
        rcases HL.out i with h | h
        · rw [List.getElem?_eq_getElem hil] at h; injection h
        · omega
      have hcl := HCL.out i hil
      rw [hLi] at hcl
      have d0 : wr.cell? ⟨b, off + i * 3, none⟩ = some (.int .i64 (L i).1) := (HB.out.cell (p := ⟨b, _, none⟩) HBLT.out).trans (hcl 0 _ rfl)
      have d1 : wr.cell? ⟨b, off + i * 3 + 1, none⟩ = some (.int .i64 (L i).2.1) := (HB.out.cell (p := ⟨b, _, none⟩) HBLT.out).trans (hcl 1 _ rfl)
      have d2 : wr.cell? ⟨b, off + i * 3 + 2, none⟩ = some (.int .i64 (L i).2.2) := (HB.out.cell (p := ⟨b, _, none⟩) HBLT.out).trans (hcl 2 _ rfl)
      have HCLI := Lib.hid hcl
      clear hcl hLi
      have hat := atS_bd L i
      have hrv := rvaS_bd L i
      have hv := vS_bd (L i)
      have hfu := fullS_bd (L i)
      have hra := rawS_bd (L i)
      have hri := rightS_bd (L i)
      have m1 := and_3fff (L i).1
      have m2 := and_1fff (L i).2.1
      have m3 := and_7 (L i).2.2
      obtain ⟨p, hp⟩ : ∃ p : Nat, 328 + 40 * (i : Int) = p := ⟨328 + 40 * i, by omega⟩
      have hpn : p = 328 + 40 * i := by omega
      have hp6 : p ≤ 528 := by omega
      have HPN := Lib.hid hpn
      have HRD := Lib.hid (fun W => rround_any (vS (L i)) 4096 W (by omega) (by omega) (by omega) (by omega))
      have hvd : (L i).1 % 16384 + 1 = vS (L i) := rfl
      have hfd : roundS (vS (L i)) 4096 = fullS (L i) := rfl
      rw [hfd] at HRD
      have hrd : (L i).2.1 % 8192 / 512 * 512 % (fullS (L i) + 512) = rawS (L i) := rfl
      have hrr : (L i).2.2 % 8 = rightS (L i) := rfl
      have x0 := HO.out.row p (by omega)
      have x1 := HO.out.row (p + 1) (by omega)
      rw [Nat.zero_add] at x0 x1
      have z0 := (HO.out.wr p (by have := HO.out.len; omega)).2
      have z1 := (HO.out.wr (p + 1) (by have := HO.out.len; omega)).2
      have uw : ∀ x : Int, 0 ≤ x → x ≤ 1000000 → IntKind.u64.wrap x = x := fun x h0 h1 => by rw [IntKind.wrap_u64]; omega
      have wv := uw (vS (L i)) (by omega) (by omega)
      have wr' := uw (rvaS L i) (by omega) (by omega)
      have ww := uw (rawS (L i)) (by omega) (by omega)
      have wa := uw (atS L i) (by omega) (by omega)
      have wg := uw (rightS (L i)) (by omega) (by omega)
      have wi : IntKind.u8.wrap (48 + (i : Int)) = 48 + i := by rw [IntKind.wrap_u8]; omega
      obtain ⟨R, hR⟩ : ∃ R : Nat, rawS (L i) = R := ⟨(rawS (L i)).toNat, by omega⟩
      have HRR := Lib.hid hR
      clear uw hpn
      go_wp2_with (go_fit (HRD.out _); rintro e w' ⟨rfl, rfl⟩)
      have HQ0 := Lib.hid ((HO.out.set p 115 (by omega) (by omega) (by omega)).set (p + 1) (48 + (i : Int)) (by omega) (by omega) (by omega))
      have HB0 := Lib.hid ((HB.out.setCell (p := ⟨g, p, none⟩) HO.out.le (.int .u8 115)).setCell (p := ⟨g, p + 1, none⟩) HO.out.le (.int .u8 (48 + (i : Int))))
      clear HO HB x0 x1 z0 z1
      refine (put_at w.heap.size _ _ _ _ _ _ (p + 8) 4 (vS (L i)) _ HQ0.out HB0.out.size (by omega) rfl (by omega) (by omega) (by omega) (by omega) (by omega) (by omega)).mono ?_
      rintro e v1 ⟨h1, k1, rfl, ho, hb⟩
      have HQ1 := Lib.hid ho
      have HB1 := Lib.hid (HB0.out.trans (hb.mono HB0.out.size))
      clear ho hb HQ0 HB0
      go_wp2_with fail
      refine (put_at w.heap.size _ _ _ _ _ _ (p + 12) 4 (rvaS L i) _ HQ1.out HB1.out.size (by omega) rfl (by omega) (by omega) (by omega) (by omega) (by omega) (by omega)).mono ?_
      rintro e v2 ⟨h2, k2, rfl, ho, hb⟩
      have HQ2 := Lib.hid ho
      have HB2 := Lib.hid (HB1.out.trans (hb.mono HB1.out.size))
      clear ho hb HQ1 HB1
      go_wp2_with fail
      refine (put_at w.heap.size _ _ _ _ _ _ (p + 16) 4 (R : Int) _ HQ2.out HB2.out.size (by omega) rfl (by omega) (by omega) (by omega) (by omega) (by omega) (by omega)).mono ?_
      rintro e v3 ⟨h3, k3, rfl, ho, hb⟩
      have HQ3 := Lib.hid ho
      have HB3 := Lib.hid (HB2.out.trans (hb.mono HB2.out.size))
      clear ho hb HQ2 HB2
      go_wp2_with fail
      refine (put_at w.heap.size _ _ _ _ _ _ (p + 20) 4 ((atS L i : Nat) : Int) _ HQ3.out HB3.out.size (by omega) rfl (by omega) (by omega) (by omega) (by omega) (by omega) (by omega)).mono ?_
      rintro e v4 ⟨h4, k4, rfl, ho, hb⟩
      have HQ4 := Lib.hid ho
      have HB4 := Lib.hid (HB3.out.trans (hb.mono HB3.out.size))
      clear ho hb HQ3 HB3
      have e2 : v4.cell? ⟨b, off + i * 3 + 2, none⟩ = some (.int .i64 (L i).2.2) := (HB4.out.cell (p := ⟨b, _, none⟩) HBLT.out).trans (HCLI.out 2 _ rfl)
      clear d0 d1 d2
      go_wp2_with fail
      refine (put_at w.heap.size _ _ _ _ _ _ (p + 36) 4 (rightS (L i) * 536870912) _ HQ4.out HB4.out.size (by omega) rfl (by omega) (by omega) (by omega) (by omega) (by omega) (by omega)).mono ?_
      rintro e v5 ⟨h5, k5, rfl, ho, hb⟩
      have HQ5 := Lib.hid ho
      have HB5 := Lib.hid (HB4.out.trans (hb.mono HB4.out.size))
      clear ho hb HQ4 HB4
      clear e2
      go_wp2_with (at_make; refine wpList_makeC rfl _ _ rfl w.heap.size .i64 .i64 R rfl rfl (by omega) HB5.out.size ?_; intro v6 ho hb hs)
      have HM := Lib.hid ho
      have HQ6 := Lib.hid (HQ5.out.below hb)
      have HB6 := Lib.hid (HB5.out.trans (hb.mono HB5.out.size))
      have HNE : Hid (h5 ≠ v5.heap.size) := Lib.hid (by have := HQ5.out.lt; omega)
      clear ho hb hs HQ5 HB5
      generalize v5.heap.size = gm at *
      go_loopw [14] (fun o14 wr => ∃ k : Nat, k ≤ R ∧ o14 = .int .i64 k ∧ OwnC wr w.heap.size gm R R (fun q => if q < k then (7 * (q : Int) + i + 1) % 256 else 0) ∧ OwnC wr w.heap.size h5 (atS L i) k5 (putI (putI (putI (putI (putI (setF (setF F p 115) (p + 1) (48 + i)) (p + 8) (vS (L i)) 4) (p + 12) (rvaS L i) 4) (p + 16) (R : Int) 4) (p + 20) (atS L i) 4) (p + 36) (rightS (L i) * 536870912) 4) ∧ Below w.heap.size w wr) (fun o14 _ => R - (intOf o14).toNat)
      case atStart => exact ⟨0, by omega, rfl, HM.out.congr (fun q => by simp) (fun q _ => by simp), HQ6.out, HB6.out⟩
      case round =>
        obtain ⟨k, hk, rfl, ho, hq, hb⟩ := hrel
        have HM := Lib.hid ho
        have HQ := Lib.hid hq
        have HB := Lib.hid hb
        clear ho hq hb
        by_cases hkl : k < R
        · have hkl' : (k : Int) < R := by omega
          have x0 := HM.out.row k hkl
          rw [Nat.zero_add] at x0
          have z0 := (HM.out.wr k hkl).2
          have wk : IntKind.u8.wrap ((k : Int) * 7 + i + 1) = (7 * (k : Int) + i + 1) % 256 := by rw [IntKind.wrap_u8]; omega
          have hRb : R < 8192 := by omega
          go_wp2_with fail
          go_roundw
          case rel => exact ⟨k + 1, by omega, by go_num, (HM.out.set k ((7 * (k : Int) + i + 1) % 256) hkl (by omega) (by omega)).congr (fun q => by split <;> omega) (fun q hq => by
            unfold setF
            by_cases e : q = k
            · subst e; simp
            · rw [if_neg e]
              show (if q < k then (7 * (q : Int) + i + 1) % 256 else 0) = _
              by_cases e2 : q < k
              · rw [if_pos e2, if_pos (by omega)]
              · rw [if_neg e2, if_neg (by omega)]), HQ.out.of_block (by simp) (heap_setCell_other _ _ _ _ HNE.out), HB.out.setCell HM.out.le _⟩
          case measure => simp [intOf]; omega
        · obtain rfl : k = R := by omega
          go_wp2_with (at_builtin; refine wpList_appC rfl _ _ rfl HQ.out (.inr ⟨gm, 0, rfl, HM.out.lt, HM.out.row⟩) HM.out.by255 (by omega) HB.out.size rfl rfl ?_; intro g' cap' w' ho hb)
          have hsum : rvaS L (i + 1) = rvaS L i + fullS (L i) := rfl
          have hatn : atS L (i + 1) = atS L i + k := by simp only [atS]; rw [HRR.out]; rfl
          go_roundw
          case rel =>
            refine ⟨i + 1, g', cap', _, by omega, by rw [hatn], by rw [hsum], by go_num, by rw [hatn]; exact ho, ?_, HB.out.trans hb⟩
            have hn := HF.out.next (by omega) (fun q => if q < k then (7 * (q : Int) + i + 1) % 256 else 0) (fun q hq => if_pos (by rw [HRR.out] at hq; omega))
            unfold secF at hn
            rw [← HPN.out, HRR.out] at hn
            exact hn
          case measure => simp [intOf]; omega
    · obtain rfl : i = N := by omega
      have wr' : IntKind.u64.wrap (rvaS L i) = rvaS L i := by
        have := rvaS_bd L i
        rw [IntKind.wrap_u64]; omega
      have hrv := rvaS_bd L i
      have hat := atS_bd L i
      go_wp2_with fail
      refine (put_at w.heap.size _ _ _ _ _ _ 144 4 (rvaS L i) _ HO.out HB.out.size rfl rfl (by omega) (by omega) (by omega) (by omega) (by omega) (by omega)).mono ?_
      rintro e w' ⟨g', c', rfl, ho, hb⟩
      have HO2 := Lib.hid ho
      have HB2 := Lib.hid (HB.out.trans (hb.mono HB.out.size))
      clear ho hb HO HB
      go_wp2_with fail
      go_loopw [6, 15] (fun o6 o15 wr => wr = w' ∧ o15 = .int .i64 0 ∧ o6 = .slice (some ⟨g', 0, none⟩) (atS L i) c') (fun _ _ _ => 0)
      case atStart => exact ⟨rfl, rfl, rfl⟩
      case round =>
        obtain ⟨rfl, rfl, rfl⟩ := hrel
        go_wp2_with fail
        go_ret
        rw [HNN.out]
        exact ⟨g', c', _, rfl, HO2.out, HF.out.done hN2, HB2.out⟩
theorem MadeI.sect {L : Nat → Trip} {n : Int} {m i : Nat} {f : Nat → Int} (x : MadeI L n m f) (h : i < m) : sectS f (328 + 40 * i) = ⟨nameS f (328 + 40 * i), vS (L i), rvaS L i, rawS (L i), atS L i, rightS (L i) * 536870912⟩ := by
  have s := x.sec i h
  unfold sectS
  rw [s.v, s.rva, s.raw, s.spot, s.r]
theorem rvaS_mono (L : Nat → Trip) {i j : Nat} (h : i ≤ j) : rvaS L i ≤ rvaS L j := by
  induction j with
  | zero => obtain rfl : i = 0 := by omega
            exact Int.le_refl _
  | succ j ih =>
    rcases Nat.lt_or_ge j i with h1 | h1
    · obtain rfl : i = j + 1 := by omega
      exact Int.le_refl _
    · have := ih h1
      have := fullS_bd (L j)
      simp only [rvaS]
      omega
theorem MadeI.chain {L : Nat → Trip} {n : Int} {f : Nat → Int} {t : Nat} (x : MadeI L n t f) (N : Nat) (hN : atS L t ≤ N) : ∀ (m i : Nat), i + m = t → chainP (rvaS L t) N (rvaS L i) ((List.range' i m).map fun j => sectS f (328 + 40 * j))
  | 0, i, h => by
    obtain rfl : i = t := by omega
    rfl
  | m + 1, i, h => by
    rw [List.range'_succ, List.map_cons]
    refine ⟨?_, ?_⟩
    · rw [x.sect (by omega)]
      have h1 := vS_bd (L i)
      have h2 := fullS_bd (L i)
      have h3 := rawS_bd (L i)
      have h4 := rvaS_mono L (show i + 1 ≤ t by omega)
      have h5 := atS_mono L (show i + 1 ≤ t by omega)
      have h6 := rvaS_bd L i
      simp only [rvaS, atS] at h4 h5
      refine ⟨rfl, by show vS (L i) ≠ 0; omega, by show vS (L i) ≤ _; omega, h3.2.2.1, h3.2.2.2, ?_⟩
      show ¬ (0 < rawS (L i) ∧ (N : Int) < (atS L i : Int) + rawS (L i))
      omega
    · rw [x.sect (by omega)]
      exact x.chain N hN m (i + 1) (by omega)
open Classical in
abbrev L0 : Nat → Trip := fun _ => (16, 512, 3)
theorem at0 : atS L0 1 = 1536 := rfl
structure HeadL (w : World) (cs : Array Value) (h : HeadN) (g c : Nat) (l : List SectN) : Prop where
  hv : HeadV cs h (.slice (some ⟨g, 0, none⟩) l.length c)
  sl : SlT SectN.cells 6 w (some ⟨g, 0, none⟩) l
  lt : g < w.heap.size
  bd : ∀ s ∈ l, SectBd s
  len : l.length ≤ 16
  hd0 : 0 ≤ h.headers
  hd1 : h.headers < 4294967296
theorem HeadL.below {w w' : World} {cs : Array Value} {h : HeadN} {g c : Nat} {l : List SectN} (x : HeadL w cs h g c l) (hb : Below w.heap.size w w') : HeadL w' cs h g c l :=
  ⟨x.hv, x.sl.below hb, Nat.lt_of_lt_of_le x.lt hb.size, x.bd, x.len, x.hd0, x.hd1⟩
def byteS (F : Nat → Int) (n k : Nat) : Int := if k < n then F k else 0
theorem byteS_bd {F : Nat → Int} (h : Bytes255 F) (n k : Nat) : 0 ≤ byteS F n k ∧ byteS F n k ≤ 255 := by
  unfold byteS; split
  · exact h k
  · omega
theorem byteAt_any (b off n cap : Nat) (F : Nat → Int) (k i : Nat) (w : World) (h : RowB w b off n cap F) (hk : k ≤ 4611686018427387904) (hi : i ≤ 4611686018427387904) :
    Calls Tryz.prog 107 #[.slice (some ⟨b, off, none⟩) n cap, .int .i64 k, .int .i64 i] w fun e u => e = .returned (.int .u8 (byteS F n (k + i))) ∧ w = u := by
  have hl := h.len
  have hm := h.most
  have k0 : (0 : Int) ≤ k := by omega
  by_cases c : k + i < n
  · have hc := h.row (k + i) c
    have hsum : (k : Int) + i = ((k + i : Nat) : Int) := by omega
    have c1 : (k : Int) < n := by omega
    have c2 : (i : Int) < n - k := by omega
    have hb : byteS F n (k + i) = F (k + i) := by unfold byteS; rw [if_pos c]
    rw [hb]
    have hkn : (k + i : Nat) < n := c
    clear h
    generalize k + i = q at *
    go_enter Tryz.func107, Tryz.ntmps107
    go_wp2_with fail
    go_ret
    exact ⟨rfl, rfl⟩
  · have hb : byteS F n (k + i) = 0 := by unfold byteS; rw [if_neg c]
    rw [hb]
    clear h
    by_cases c1 : (k : Int) < n
    · have c2 : (n : Int) - k ≤ i := by omega
      go_enter Tryz.func107, Tryz.ntmps107
      go_wp2_with fail
      go_ret
      exact ⟨rfl, rfl⟩
    · have c1' : (n : Int) ≤ k := by omega
      go_enter Tryz.func107, Tryz.ntmps107
      go_wp2_with fail
      go_ret
      exact ⟨rfl, rfl⟩
def layF (N : Nat) (F : Nat → Int) (nb : Nat) (f : Nat → Int) (r k n : Nat) (q : Nat) : Int := if r ≤ q ∧ q < r + n ∧ q < N then byteS F nb (k + (q - r)) else f q
set_option maxRecDepth 100000 in
set_option maxHeartbeats 2000000 in
theorem lay_any (g N : Nat) (f : Nat → Int) (b off nb cap : Nat) (F : Nat → Int) (r k n base : Nat) (w : World) (ho : OwnC w base g N N f) (h : RowB w b off nb cap F) (hne : b < base) (hN : N ≤ 1000000) (hr : r ≤ 4294967296) (hk : k ≤ 4294967296) (hn : n ≤ 4294967296) :
    Calls Tryz.prog 69 #[.slice (some ⟨g, 0, none⟩) N N, .int .i64 r, .slice (some ⟨b, off, none⟩) nb cap, .int .i64 k, .int .i64 n] w fun e u => e = .returned (.tuple #[]) ∧ OwnC u base g N N (layF N F nb f r k n) ∧ Below base w u := by
  have HO := Lib.hid ho
  have HR := Lib.hid h
  have r0 : (0 : Int) ≤ r := by omega
  clear ho h
  go_enter Tryz.func69, Tryz.ntmps69
  by_cases c : (N : Int) ≤ r
  · go_wp2_with fail
    go_returns
    exact ⟨rfl, HO.out.congr (fun q => by
      unfold layF
      split
      · exact byteS_bd HR.out.by255 _ _
      · exact HO.out.by255 q) (fun q hq => by unfold layF; rw [if_neg (by omega)]), Below.refl _ _⟩
  · have c' : (r : Int) < N := by omega
    obtain ⟨M, hM⟩ : ∃ M : Nat, min (n : Int) ((N : Int) - r) = M := ⟨(min (n : Int) ((N : Int) - r)).toNat, by omega⟩
    have HMM := Lib.hid hM
    have hM1 : r + M ≤ N := by omega
    go_wp2_with fail
    go_loopw [12] (fun o12 wr => ∃ i : Nat, i ≤ M ∧ o12 = .int .i64 i ∧ OwnC wr base g N N (layF N F nb f r k i) ∧ Below base w wr) (fun o12 _ => M - (intOf o12).toNat)
    case atStart => exact ⟨0, by omega, rfl, HO.out.congr (fun q => by
      unfold layF
      split
      · exact byteS_bd HR.out.by255 _ _
      · exact HO.out.by255 q) (fun q hq => by unfold layF; rw [if_neg (by omega)]), Below.refl _ _⟩
    case round =>
      obtain ⟨i, hi, rfl, ho, hb⟩ := hrel
      have HOI := Lib.hid ho
      have HB := Lib.hid hb
      clear ho hb hM
      by_cases hlt : i < M
      · have hlt' : (i : Int) < M := by omega
        have HBY := Lib.hid (byteAt_any b off nb cap F k i wr ⟨fun j hj => (HB.out.cell (p := ⟨b, _, none⟩) hne).trans (HR.out.row j hj), HR.out.by255, Nat.lt_of_lt_of_le HR.out.lt HB.out.size, HR.out.len, HR.out.most⟩ (by omega) (by omega))
        have hsum : (r : Int) + i = ((r + i : Nat) : Int) := by omega
        have x0 := HOI.out.row (r + i) (by omega)
        rw [Nat.zero_add] at x0
        have z0 := (HOI.out.wr (r + i) (by omega)).2
        have hbd := byteS_bd HR.out.by255 nb (k + i)
        have hri : r + i < N := by omega
        obtain ⟨p, hp⟩ : ∃ p, r + i = p := ⟨_, rfl⟩
        have HP := Lib.hid hp
        rw [hp] at hsum x0 z0 hri
        clear hp
        go_wp2_with (go_fit HBY.out; rintro e u ⟨rfl, rfl⟩)
        go_roundw
        case rel => exact ⟨i + 1, by omega, by go_num, (HOI.out.set p (byteS F nb (k + i)) hri hbd.1 hbd.2).congr (fun q => by
            unfold layF
            split
            · exact byteS_bd HR.out.by255 _ _
            · exact HO.out.by255 q) (fun q hq => by
            have hp := HP.out
            unfold setF
            by_cases e : q = p
            · subst e
              rw [if_pos rfl]
              unfold layF
              rw [if_pos (by omega), show q - r = i by omega]
            · rw [if_neg e]
              unfold layF
              by_cases e2 : r ≤ q ∧ q < r + i ∧ q < N
              · rw [if_pos e2, if_pos (by omega)]
              · rw [if_neg e2, if_neg (by omega)]), HB.out.setCell HOI.out.le _⟩
        case measure => simp [intOf]; omega
      · obtain rfl : i = M := by omega
        go_wp2_with fail
        go_returns
        exact ⟨rfl, HOI.out.congr (fun q => by
          unfold layF
          split
          · exact byteS_bd HR.out.by255 _ _
          · exact HO.out.by255 q) (fun q hq => by
          have hM := HMM.out
          unfold layF
          by_cases e : r ≤ q ∧ q < r + i ∧ q < N
          · rw [if_pos e, if_pos (by omega)]
          · rw [if_neg e, if_neg (by omega)]), HB.out⟩
def laysF (N : Nat) (F : Nat → Int) (nb : Nat) : List SectN → (Nat → Int) → (Nat → Int)
  | [], f => f
  | s :: l, f => laysF N F nb l (layF N F nb f s.rva.toNat s.spot.toNat s.raw.toNat)
def imgF (N : Nat) (F : Nat → Int) (nb : Nat) (hd : Nat) (l : List SectN) : Nat → Int := laysF N F nb l (layF N F nb (fun _ => 0) 0 0 hd)
set_option maxRecDepth 100000 in
set_option maxHeartbeats 2000000 in
theorem lays_any (cs : Array Value) (h : HeadN) (g c : Nat) (l : List SectN) (b off nb cap : Nat) (F : Nat → Int) (N hd : Nat) (w : World) (hh : HeadL w cs h g c l) (hr : RowB w b off nb cap F) (hN : h.size = N) (hN2 : N ≤ 262144) (hhd : h.headers = hd) :
    Calls Tryz.prog 24 #[.agg cs, .slice (some ⟨b, off, none⟩) nb cap] w fun e u => ∃ gi, e = .returned (.slice (some ⟨gi, 0, none⟩) N N) ∧ OwnC u w.heap.size gi N N (imgF N F nb hd l) ∧ Below w.heap.size w u := by
  have HH := Lib.hid hh
  have HR := Lib.hid hr
  have HB0 := Lib.hid ((Below.refl w.heap.size w).alloc (Nat.le_refl _) (.cells cs 41))
  have HG := Lib.hid (heap_alloc_new w (.cells cs 41))
  have c4 := hh.hv.c4
  have c5 := hh.hv.c5
  have c38 := hh.hv.c38
  have hlen := hh.len
  have hd1 := hh.hd1
  rw [hN] at c4
  rw [hhd] at c5 hd1
  obtain ⟨IM, hIM⟩ : ∃ IM, imgF N F nb hd l = IM := ⟨_, rfl⟩
  have HIM := Lib.hid hIM
  rw [hIM]
  have HS1 : Hid ((w.alloc (.cells cs 41)).heap.size = w.heap.size + 1) := Lib.hid (by simp)
  have n0 : decide ((N : Int) < 0) = false := decide_eq_false (by omega)
  have n1 : decide ((262144 : Int) < (N : Int)) = false := decide_eq_false (by omega)
  have HN2 := Lib.hid hN2
  clear hh hr hIM hN hhd hN2
  go_enter Tryz.func24, Tryz.ntmps24
  go_wp2_with (at_make; have k5 := (cell_of_row _ _ 5 _ _ _ HG.out).trans c5; have k38 := (cell_of_row _ _ 38 _ _ _ HG.out).trans c38; generalize w.alloc (.cells cs 41) = w1 at *; refine wpList_makeC rfl _ _ rfl w1.heap.size .i64 .i64 N rfl rfl (by have := HN2.out; omega) (Nat.le_refl _) ?_; intro w2 ho hb hs; have HO2 := Lib.hid ho; have HB12 := Lib.hid hb; have k5 := (hb.cell (p := ⟨w.heap.size, 5, none⟩) (by have := HS1.out; show w.heap.size < w1.heap.size; omega)).trans k5; clear ho hb hs)
  have HB2 := Lib.hid (HB0.out.trans (HB12.out.mono HB0.out.size))
  have hb01 : b < w1.heap.size := by have := HR.out.lt; have := HS1.out; omega
  refine (lay_any w1.heap.size N (fun _ => 0) b off nb cap F 0 0 hd w1.heap.size w2 HO2.out (HR.out.below HB2.out) hb01 (by have := HN2.out; omega) (by omega) (by omega) (by omega)).mono ?_
  rintro e w3 ⟨rfl, ho, hb⟩
  have HO3 := Lib.hid ho
  have HB13 := Lib.hid (HB12.out.trans hb)
  have k38' := (HB13.out.cell (p := ⟨w.heap.size, 38, none⟩) (by have := HS1.out; show w.heap.size < w1.heap.size; omega)).trans ((cell_of_row _ _ 38 _ _ _ HG.out).trans c38)
  clear ho hb k5 HO2 HB12 HB2
  go_wp2_with fail
  clear k38' c38 c4 c5 n0 n1
  go_loopw [7, 27] (fun _ o27 wr => ∃ (i : Nat) (f : Nat → Int), i ≤ l.length ∧ o27 = .int .i64 i ∧ OwnC wr w1.heap.size w1.heap.size N N f ∧ laysF N F nb (l.drop i) f = IM ∧ Below w1.heap.size w1 wr) (fun _ o27 _ => l.length - (intOf o27).toNat)
  case atStart => exact ⟨0, _, by omega, rfl, HO3.out, HIM.out, HB13.out⟩
  case round =>
    obtain ⟨i, f, hi, rfl, ho, hf, hb⟩ := hrel
    have HO := Lib.hid ho
    have HF := Lib.hid hf
    have HB := Lib.hid hb
    have HBW : Hid (Below w.heap.size w wr) := Lib.hid (HB0.out.trans (hb.mono HB0.out.size))
    clear ho hf hb HO3 HB13
    by_cases hlt : i < l.length
    · have hlt' : (i : Int) < l.length := by omega
      obtain ⟨d0, d1, d2, d3, d4, d5⟩ := (HH.out.sl.below HBW.out).at6 i hlt
      have hs := HH.out.bd l[i] (List.getElem_mem hlt)
      have hd := HF.out
      rw [List.drop_eq_getElem_cons hlt] at hd
      have HD := Lib.hid hd
      clear hd
      generalize l[i] = s at *
      obtain ⟨nm, v, rva, raw, spot, ch⟩ := s
      obtain ⟨v0, v1, p0, p1, a0, a1, s0, s1, x0, x1⟩ := hs
      simp only at d0 d1 d2 d3 d4 d5 v0 v1 p0 p1 a0 a1 s0 s1 x0 x1
      obtain ⟨rv, rfl⟩ : ∃ n : Nat, rva = n := ⟨rva.toNat, by omega⟩
      obtain ⟨rw', rfl⟩ : ∃ n : Nat, raw = n := ⟨raw.toNat, by omega⟩
      obtain ⟨sp, rfl⟩ : ∃ n : Nat, spot = n := ⟨spot.toNat, by omega⟩
      go_wp2_with fail
      have hba := (Below.refl wr.heap.size wr).alloc (Nat.le_refl _) (.cells #[.string nm, .int .i64 v, .int .i64 (rv : Int), .int .i64 (rw' : Int), .int .i64 (sp : Int), .int .i64 ch] 72)
      refine (lay_any w1.heap.size N f b off nb cap F rv sp rw' w1.heap.size _ (HO.out.below hba) (HR.out.below (HBW.out.trans (hba.mono HBW.out.size))) hb01 (by have := HN2.out; omega) (by omega) (by omega) (by omega)).mono ?_
      rintro e u ⟨rfl, ho, hb⟩
      have HOU := Lib.hid ho
      have HBU := Lib.hid ((HB.out.trans (hba.mono HB.out.size)).trans hb)
      clear ho hb hba
      go_wp2_with fail
      go_roundw
      case rel => exact ⟨i + 1, _, by omega, by go_num, HOU.out, by have := HD.out; simp only [laysF, Int.toNat_natCast] at this; exact this, HBU.out⟩
      case measure => simp [intOf]; omega
    · obtain rfl : i = l.length := by omega
      have hf := HF.out
      rw [List.drop_length] at hf
      have hf' : f = IM := hf
      subst hf'
      go_wp2_with fail
      go_ret
      exact ⟨_, rfl, HO.out.weaken (by have := HS1.out; omega), HBW.out⟩
end Go.Proofs.YtplgdpjbkdagfaaGreat
