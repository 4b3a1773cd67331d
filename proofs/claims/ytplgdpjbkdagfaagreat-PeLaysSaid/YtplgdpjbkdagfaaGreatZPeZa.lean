import Derived.Test.YtplgdpjbkdagfaaGreatZPeFw
import Derived.Test.YtplgdpjbkdagfaaGreatZExpI0
import Derived.Test.YtplgdpjbkdagfaaGreatZRelMade
import Derived.Test.YtplgdpjbkdagfaaGreatZPeH
import Derived.Test.YtplgdpjbkdagfaaGreatZMd
import Derived.Deep.Upon
import Derived.Deep.Cut
import Derived.Deep.CutRange
import Derived.Deep.CutBlock
import Derived.Test.YtplgdpjbkdagfaaGreatZPeV
import Derived.Test.YtplgdpjbkdagfaaGreatPeFx
namespace Go.Proofs.YtplgdpjbkdagfaaGreat
open Go.ChangeShapes Go.WideShapes Go.ChangeAt Go.RowKit
set_option linter.unusedVariables false
set_option linter.unusedSimpArgs false
set_option maxRecDepth 100000
def bdN (i : Nat) : Nat := if i = 0 then 4160 else if i = 1 then 9500 else if i = 2 then 171000 else if i = 3 then 172000 else if i = 4 then 173000 else if i = 5 then 178000 else 340000
theorem putL_len2 {b : List Nat} {o n v L : Nat} (hb : b.length = L) (h : o + n ≤ L) : (putL b o n v).length = L := by rw [putL_len (by omega)]; exact hb
theorem atH_len (start n m base : Nat) : (atH start n m base).length = start + 40 + 4 * n + 6 * m := by
  unfold atH
  exact putL_len2 (putL_len2 (putL_len2 (putL_len2 (putL_len2 (putL_len2 List.length_replicate (by omega)) (by omega)) (by omega)) (by omega)) (by omega)) (by omega)
theorem ownD_c {w : World} {base g c : Nat} {bs : List Nat} (h : OwnD w base g c bs) : OwnC w base g bs.length c (lF bs) := ⟨h.le, h.lt, h.row, h.lb.b255, h.len, h.most, h.wr⟩
theorem at7w (st : Nat) (hst : st ≤ 4200) (F : Option Addr) (lf fc : Nat) (SF : Nat → ByteArray) (N : Option Addr) (ln nc : Nat) (SN : Nat → ByteArray) (w : World) (hF : StrS w F lf SF) (hN : StrS w N ln SN) (hlf : lf ≤ 9223372036854775807) (hln : ln ≤ 9223372036854775807) (hf : ∀ j, j < 12 → j < lf → (SF j).size ≤ 60) (hn : ∀ j, j < 12 → j < ln → (SN j).size ≤ 60) :
    Calls Tryz.prog 27 #[.int .i64 st, .slice F lf fc, .slice N ln nc, .int .i64 3] w fun e u => ∃ g c n f a b, e = .returned (.tuple #[.slice (some ⟨g, 0, none⟩) n c, .agg #[.int .i64 a, .int .i64 b]]) ∧ st ≤ n ∧ n ≤ st + 5300 ∧ OwnC u w.heap.size g n c f ∧ Below w.heap.size w u := by
  have k1 := fstL_ok (n := lf) (Sx := SF) (fun j h1 h2 => Nat.le_trans (hf j h1 h2) (by omega))
  have k2 := fstL_ok (n := ln) (Sx := SN) (fun j h1 h2 => Nat.le_trans (hn j h1 h2) (by omega))
  have l1 := fstL_len lf SF
  have l2 := fstL_len ln SN
  have h := at7_gen st 3 (fstL lf SF) (fstL ln SN) lf ln F N fc nc w hst hF.fst hN.fst k1 k2 (by omega) (by omega) (by omega) hlf hln _ _ rfl rfl
  have t1 : (fstL lf SF).take 12 = fstL lf SF := List.take_of_length_le (by omega)
  have t2 : (fstL ln SN).take 12 = fstL ln SN := List.take_of_length_le (by omega)
  rw [t1, t2] at h
  have hB := atF_len (rows := st + 40) (Z := st + 40 + 4 * (fstL lf SF).length + 6 * (fstL ln SN).length) (fstL lf SF) 0 (atH st (fstL lf SF).length (fstL ln SN).length 3) (by omega) (by rw [atH_len]; exact Nat.le_refl _) k1
  rw [atH_len] at hB
  have hE := atN_len (r1 := st + 40 + 4 * (fstL lf SF).length) (r2 := st + 40 + 4 * (fstL lf SF).length + 4 * (fstL ln SN).length) (n := (fstL lf SF).length) (Z := st + 40 + 4 * (fstL lf SF).length + 6 * (fstL ln SN).length) (fstL ln SN) 0 (atB st (fstL lf SF) (fstL ln SN).length 3) (by omega) (by omega) (by unfold atB; omega) k2
  refine h.mono ?_
  rintro e u ⟨g, c, rfl, ho, hb⟩
  refine ⟨g, c, _, _, _, _, rfl, ?_, ?_, ownD_c ho, hb⟩
  · unfold atE; unfold atB at hE ⊢; omega
  · unfold atE; unfold atB at hE ⊢; omega
theorem impF_len (delay : Bool) (st D : Nat) (hD : lenD delay = D) (h20 : 20 ≤ D) : ∀ (l : List PIm) (i : Nat) (b : List Nat), st + D * (i + l.length + 1) ≤ b.length → (∀ x ∈ l, (∀ s ∈ x.syms, s.1.length ≤ 100) ∧ x.dll.length ≤ 100) → b.length ≤ (impF delay st l i b).length ∧ (impF delay st l i b).length ≤ b.length + 8500 * l.length
  | [], i, b, _, _ => by simp [impF]
  | x :: l, i, b, h, hs => by
    have hlc : (x :: l).length = l.length + 1 := List.length_cons
    obtain ⟨h1, h2⟩ := hs x (by simp)
    rw [hlc] at h
    have e1 : D * (i + (l.length + 1) + 1) = D * i + D * l.length + D + D := by rw [Nat.mul_add, Nat.mul_add, Nat.mul_add, Nat.mul_one]; omega
    have e2 : D * (i + 1 + l.length + 1) = D * i + D * l.length + D + D := by rw [Nat.mul_add, Nat.mul_add, Nat.mul_add, Nat.mul_one]; omega
    have k := impStep_len delay (st + D * i) i b x (by omega) h1 h2
    have ih := impF_len delay st D hD h20 l (i + 1) (impStep delay (st + D * i) i b x) (by omega) (fun y hy => hs y (List.mem_cons_of_mem _ hy))
    simp only [impF, hD]
    omega
theorem at8_len (st : Nat) (delay : Bool) (X : ImpIn) (n : Nat) (hf : ∀ i, i < n → FewI X i) : st ≤ (at8 st (pimOf X n) delay).length ∧ (at8 st (pimOf X n) delay).length ≤ st + 153700 := by
  have hlen : (pimOf X n).length = n := by simp [pimOf]
  have hD : lenD delay ≤ 32 ∧ 20 ≤ lenD delay := by unfold lenD; split <;> omega
  obtain ⟨m, hm⟩ : ∃ m, min n 18 = m := ⟨_, rfl⟩
  have hml : ((pimOf X n).take 18).length = m := by rw [List.length_take, hlen]; omega
  have hx : ∀ x ∈ (pimOf X n).take 18, (∀ s ∈ x.syms, s.1.length ≤ 100) ∧ x.dll.length ≤ 100 := fun x hx => by
    have hx := List.mem_of_mem_take hx
    simp only [pimOf, List.mem_map, List.mem_range] at hx
    obtain ⟨i, hi, rfl⟩ := hx
    obtain ⟨h1, h2, h3⟩ := hf i hi
    refine ⟨fun s hs => ?_, by simp only [byt_len]; omega⟩
    simp only [List.mem_map, List.mem_range] at hs
    obtain ⟨j, hj, rfl⟩ := hs
    simp only [byt_len]
    have := h3 j hj
    omega
  obtain ⟨D, hDe⟩ : ∃ D, lenD delay = D := ⟨_, rfl⟩
  rw [hDe] at hD
  have em1 : D * (m + 1) = D * m + D := by rw [Nat.mul_add, Nat.mul_one]
  have em2 : D * (0 + m + 1) = D * m + D := by rw [Nat.zero_add]; exact em1
  have hm18 : D * m ≤ 32 * 18 := Nat.mul_le_mul hD.1 (by omega)
  unfold at8
  rw [hlen, hm, hDe]
  have k := impF_len delay st D hDe hD.2 ((pimOf X n).take 18) 0 (List.replicate (st + D * (m + 1)) 0) (by rw [hml, List.length_replicate]; omega) hx
  rw [hml, List.length_replicate] at k
  omega
theorem madeB_leW (l : List Site) : ∀ (F k : Nat), k ≤ l.length → (madeB l F k).length ≤ 12 * (l.length - k)
  | 0, k, _ => by simp [madeB]
  | F + 1, k, hk => by
    unfold madeB
    by_cases hlt : k < l.length
    · rw [List.getElem?_eq_getElem hlt]
      simp only
      have hd : l.drop k = l[k] :: l.drop (k + 1) := List.drop_eq_getElem_cons hlt
      obtain ⟨r, hrr⟩ : ∃ r, runN (l[k].2 / 4096) (l.drop k) = r := ⟨_, rfl⟩
      have hr1 : 1 ≤ r := by rw [← hrr, hd]; exact runN_pos rfl
      obtain ⟨t1, _⟩ := runN_take (l[k].2 / 4096) (l.drop k)
      rw [hrr] at t1 ⊢
      rw [List.length_drop] at t1
      have ih := madeB_leW l F (k + r) (by omega)
      obtain ⟨_, v2⟩ := vsOf_len ((l.drop k).take r)
      rw [List.length_take, List.length_drop] at v2
      rw [List.length_append, pad_enc]
      unfold blockB
      rw [List.length_append, List.length_append, le4_len, le4_len, enc_len]
      omega
    · rw [List.getElem?_eq_none (by omega)]
      simp
theorem madeB_bsW (l : List Site) : ∀ (F k : Nat), Bs (madeB l F k)
  | 0, k => Bs.nil
  | F + 1, k => by
    unfold madeB
    cases l[k]? with
    | none => exact Bs.nil
    | some x =>
      refine ((le4_bs _).append (le4_bs _)).append ?_ |>.append (madeB_bsW l F _)
      have h : Bs ((((l.drop k).take (runN (x.2 / 4096) (l.drop k))).flatMap ent)) := fun b hb => by
        obtain ⟨y, _, hy⟩ := List.mem_flatMap.1 hb
        exact ent_bs y b hy
      unfold pad
      split
      · exact h.append (fun b hb => by simp at hb; omega)
      · exact h
theorem relw (n : Nat) (hn : n ≤ 300000) (h0 : 0 < n) (L : Option Addr) (l : List Site) (cap : Nat) (w : World) (hl : SlT relC 2 w L l) (hll : l.length ≤ 60) (hr : ∀ x ∈ l, 0 ≤ x.2 ∧ x.2 < 16777216) :
    Calls Tryz.prog 29 #[.slice L l.length cap, .int .i64 n] w fun e u => ∃ g c m f a b, e = .returned (.tuple #[.slice (some ⟨g, 0, none⟩) m c, .agg #[.int .i64 a, .int .i64 b]]) ∧ n ≤ m ∧ m ≤ n + 720 ∧ RowB u g 0 m c f ∧ Below w.heap.size w u := by
  refine (relmade_any L l cap n w hl hll hn hr).mono ?_
  rintro e u ⟨A, c, rfl, ho, hb⟩
  have hle := madeB_leW l (l.length + 1) 0 (by omega)
  obtain ⟨_, h1, h2, h3, h4⟩ := ho.slice
  rcases h4 with h4 | ⟨g, rfl, _, hg⟩
  · omega
  · simp only [maxLen] at h2
    rcases h3 with h3 | ⟨b', off', hA, hlt, hrow⟩
    · omega
    · injection hA with hA
      injection hA with e1 e2
      subst e1 e2
      exact ⟨g, c, _, _, _, _, rfl, by omega, by omega, ⟨hrow, ((show Bs (aheadB n) from Bs.listF (fun i => by omega) n).append (madeB_bsW l _ _)).lit, hlt, h1, by omega⟩, hb⟩
theorem wpList_appKeep {w : World} {ops : Array Oper} {rest : List Oper} {o : Oper} {a : Act} {Q : Exit → Act → World → Prop} (hgd : o.guard = none) (s x : Operand)
    (ho : o.op = .call { callee := .builtin .append, args := #[s, x], argTypes := #[25, 25] })
    {base g n cap m c : Nat} {A : Option Addr} {f h : Nat → Int} (hown : OwnC w base g n cap f) (hsl : SlB w A m h) (h255 : Bytes255 h) (hnm : n + m ≤ 1000000) (hbase : base ≤ w.heap.size)
    (hv : a.eval s = .slice (some ⟨g, 0, none⟩) n cap) (hx : a.eval x = .slice A m c)
    (hK : ∀ g' cap' w', OwnC w' base g' (n + m) cap' (catF n f h) → Below base w w' → (∀ b, b < w.heap.size → b ≠ g → w'.heap[b]? = w.heap[b]?) → wpList Tryz.prog ops Q rest (a.put o.dst (.slice (some ⟨g', 0, none⟩) (n + m) cap')) w') : wpList Tryz.prog ops Q (o :: rest) a w := by
  obtain ⟨i0, hi, hz0, hz1, hz2⟩ := info_parts infoU8
  have hs : Src Tryz.prog i0.size 25 (.slice A m c) m (bytesL m h) w := by rw [hz1]; exact src_sl hsl
  have hrun : ∃ g' cap' w', (Builtin.append_ #[25, 25] o.type #[.slice (some ⟨g, 0, none⟩) n cap, .slice A m c]).run Tryz.prog w = .ok (.slice (some ⟨g', 0, none⟩) (n + m) cap') w' ∧ OwnC w' base g' (n + m) cap' (catF n f h) ∧ Below base w w' ∧ (∀ b, b < w.heap.size → b ≠ g → w'.heap[b]? = w.heap[b]?) := by
    by_cases hroom : n + m ≤ cap
    · have hin : ∀ j, j < (bytesL m h).length → (w.cell? ⟨g, n + j, none⟩).isSome = true := fun j hj => (hown.wr (n + j) (by rw [bytesL_len] at hj; omega)).1
      have hr := run_append_room_src (P := Tryz.prog) w 25 25 o.type 5 i0 Tryz.underlying25 hi g 0 n cap (.slice A m c) m _ hs hroom
        (fun j hj => by rw [hz1, Nat.mul_one, Nat.zero_add]; exact hin j hj) (fun j hj => by rw [hz1, Nat.mul_one, Nat.zero_add]; exact (hown.wr (n + j) (by rw [bytesL_len] at hj; omega)).2)
      rw [hz1, Nat.mul_one, Nat.zero_add] at hr
      refine ⟨_, _, _, hr, ⟨hown.le, by rw [size_setCellsH]; exact hown.lt, fun i hi => ?_, cat255 hown.by255 h255, hroom, hown.most, fun j hj => ⟨World.isSome_setCells _ _ _ _ _ (hown.wr j hj).1, by rw [World.frozen?_setCells]; exact (hown.wr j hj).2⟩⟩, below_setCells hown.le _ _ _ (Below.refl base w), fun b hb hne => World.heap_setCells_other _ _ _ _ hb hne⟩
      unfold catF
      rw [Nat.zero_add]
      by_cases e : i < n
      · rw [if_pos e, World.cell?_setCells_out _ _ _ _ _ (fun _ _ => .inl e)]
        have := hown.row i e
        rwa [Nat.zero_add] at this
      · rw [if_neg e]
        have := World.cell?_setCells_in g (bytesL m h) n w hin (i - n) (by rw [bytesL_len]; omega)
        rw [show n + (i - n) = i by omega] at this
        rw [this]
        simp [bytesL]
    · have hold : (Builtin.firstCells i0.size n (.slice (some ⟨g, 0, none⟩) n cap)).run Tryz.prog w.drew = .ok (bytesL n f).toArray w.drew := by
        rw [hz1]
        refine run_firstCells_some w.drew 1 n ⟨g, 0, none⟩ n cap (bytesL n f) (by rw [bytesL_len, Nat.mul_one]) fun j u hu => ?_
        have hj : j < n := by
          rcases Nat.lt_or_ge j n with hj | hj
          · exact hj
          · rw [List.getElem?_eq_none (by rw [bytesL_len]; omega)] at hu; cases hu
        rw [bytesL_get n f hj] at hu
        injection hu with hu
        subst hu
        have hadd : (⟨g, 0, none⟩ : Addr).add j = ⟨g, 0 + j, none⟩ := by unfold Addr.add; split <;> simp_all
        rw [hadd]
        exact hown.row j hj
      have hr := run_append_grow_src (P := Tryz.prog) w 25 25 o.type 5 i0 (.int .u8 0) Tryz.underlying25 hi hz0 (some ⟨g, 0, none⟩) n cap (bytesL n f) hold (.slice A m c) m _ hs (by omega) (by omega) (growslice_fits (by omega) (by rw [hz2]; omega))
      have hcap := grownCap_ge w (n + m) cap 5
      have hcm := grownCap_le_maxLen w (n + m) cap 5 (by simp only [maxLen]; omega)
      simp only [maxLen] at hcm
      have hz : (Value.int .u8 0).cells = #[.int .u8 0] := rfl
      have hh := heap_alloc_new w.drew (.cells ((bytesL n f ++ bytesL m h).toArray ++ Builtin.zeroCells (Value.int .u8 0).cells (grownCap w (n + m) cap 5 - (n + m))) 5)
      have hsz : ((bytesL n f ++ bytesL m h).toArray ++ Builtin.zeroCells (Value.int .u8 0).cells (grownCap w (n + m) cap 5 - (n + m))).size = grownCap w (n + m) cap 5 := by
        rw [Array.size_append, size_zeroCells, hz]
        simp [bytesL_len]
        omega
      refine ⟨_, _, _, hr, ⟨hbase, by simp, fun i hi => ?_, cat255 hown.by255 h255, hcap, by omega, fun j hj => ⟨?_, frozen_of_row _ _ _ _ _ hh⟩⟩, ((Below.refl base w).drew).alloc (by simpa using hbase) _, fun b hb _ => (((Below.refl w.heap.size w).drew).alloc (by simp) _).block b hb⟩
      · rw [Nat.zero_add]
        have := cell_of_row _ _ i _ _ _ hh
        refine Eq.trans this ?_
        rw [bytesL_cat, Array.getElem?_append_left (by simpa [bytesL_len] using hi), List.getElem?_toArray, bytesL_get _ _ hi]
      · have := cell_of_row _ _ j _ _ _ hh
        refine Eq.trans (congrArg Option.isSome this) ?_
        rw [Array.getElem?_eq_getElem (by omega)]
        rfl
  refine wpList_plain hgd fun K hK' => ?_
  obtain ⟨g', cap', w', hrun, r1, r2, r3⟩ := hrun
  unfold Oper.wp execOp
  simp only [ho, resolve, invoke, builtin, Sem.run_bind, Sem.run_pure, Result.andThen_ok, List.map_toArray, List.map_cons, List.map_nil, hv, hx, hrun]
  exact hK' _ _ (hK g' cap' w' r1 r2 r3)
def MkQ (w : World) (st bd : Nat) (v10 v12 v13 : Value) (wx : World) : Prop :=
  ∃ (g n c k P : Nat) (f : Nat → Int) (a b : Int), v10 = .slice (some ⟨g, 0, none⟩) n c ∧ RowB wx g 0 n c f ∧ st ≤ n ∧ n ≤ bd ∧ v12 = .pointer (some ⟨P, 0, none⟩) ∧ P < wx.heap.size ∧ wx.cell? ⟨P, 0, none⟩ = some (.int .i64 a) ∧ wx.cell? ⟨P, 1, none⟩ = some (.int .i64 b) ∧ v13 = .int .i64 k ∧ k ≤ 13 ∧ Below w.heap.size w wx ∧ w.heap.size ≤ P
set_option maxHeartbeats 8000000 in
theorem made12w (p : PIn) (w : World) (hp : p.Is w) (hl : p.Lens) (hf : p.Few) : Calls Tryz.prog 8 #[.agg p.cells, .int .i64 15] w fun e u =>
    ∃ g c F f, e = .returned (.slice (some ⟨g, 0, none⟩) 8704 c) ∧ OwnC u w.heap.size g 8704 c f ∧ MadeP L12 1 F ∧ SameH 1 F f ∧ Below w.heap.size w u := by
  have hb0 : Below w.heap.size w ((w.alloc (.cells p.cells 32)).alloc (.cells #[.int .i64 12287, .int .i64 8191, .int .i64 7] 88)) := ((Below.refl w.heap.size w).alloc (Nat.le_refl _) _).alloc (by simp) _
  have hz0 : ((w.alloc (.cells p.cells 32)).alloc (.cells #[.int .i64 12287, .int .i64 8191, .int .i64 7] 88)).heap[w.heap.size]? = some (.cells p.cells 32 (0, 0)) := heap_alloc2_old _ _ _
  have hz1 : ((w.alloc (.cells p.cells 32)).alloc (.cells #[.int .i64 12287, .int .i64 8191, .int .i64 7] 88)).heap[w.heap.size + 1]? = some (.cells #[.int .i64 12287, .int .i64 8191, .int .i64 7] 88 (0, 0)) := heap_alloc2_new _ _ _
  obtain ⟨w1, hw1⟩ : ∃ q, (w.alloc (.cells p.cells 32)).alloc (.cells #[.int .i64 12287, .int .i64 8191, .int .i64 7] 88) = q := ⟨_, rfl⟩
  rw [hw1] at hb0 hz0 hz1
  have hs0 : SlT tripC 3 w1 (some ⟨w.heap.size + 1, 0, none⟩) [(12287, 8191, 7)] := by
    refine .inr ⟨w.heap.size + 1, 0, rfl, lt_of_row' hz1, fun i hi j v hv => ?_⟩
    obtain rfl : i = 0 := by simp at hi; exact hi
    rw [cell_of_row' hz1]
    rw [show 0 + (0 * 3 + j) = j by omega]
    simpa [tripC] using hv
  have HW := Lib.hid hw1
  have HB0 := Lib.hid hb0
  have HPB := Lib.hid (fun W (hW : Below w.heap.size w W) => hp.below hW)
  have HCL := Lib.hid (show ∀ W, Below w1.heap.size w1 W → ∀ j v, p.cells[j]? = some v → W.cell? ⟨w.heap.size, j, none⟩ = some v from fun W hW j v hv => (hW.cell (p := ⟨w.heap.size, j, none⟩) (lt_of_row' hz0)).trans ((cell_of_row' hz0).trans hv))
  have HLN := Lib.hid hl
  have HFW := Lib.hid hf
  have HMA := Lib.hid (made_any (some ⟨w.heap.size + 1, 0, none⟩) [(12287, 8191, 7)] 1 L12 (fun i => by rcases i with _ | i; exact .inl rfl; exact .inr (by simp)) w1 (by simp) hs0)
  clear hp hl hf hb0 hz0 hz1 hw1 hs0
  go_enter Tryz.func8, Tryz.ntmps8
  go_wp2_with fail
  refine (congrArg (fun W => Calls Tryz.prog 25 #[.slice (some ⟨w.heap.size + 1, 0, none⟩) 1 1, .slice none 0 0] W _) HW.out).mpr ?_
  refine HMA.out.mono ?_
  rintro e w2 ⟨g, c, F, rfl, ho, hm, hb⟩
  rw [show min [((12287, 8191, 7) : Trip)].length 6 = 1 by rfl] at ho hm ⊢
  rw [at12] at ho ⊢
  have HO2 := Lib.hid (ho.weaken (base' := w.heap.size) HB0.out.size)
  have HM := Lib.hid hm
  have HB2 := Lib.hid hb
  have hcv := run_str (cap := c) ho.row
  have HSM := Lib.hid (show SameH 1 F (PlainAid.bt (strF F 0 8704)) from fun q h1 h2 => by rw [bt_strF ho.by255 (by omega), Nat.zero_add])
  have HSZ := Lib.hid (strF_size F 0 8704)
  generalize strF F 0 8704 = S at hcv HSM HSZ
  clear ho hm hb HMA
  go_wp2_with fail
  refine (rhead_any S w2 (by rw [HSZ.out]; omega)).mono ?_
  rintro e w3 ⟨⟨v, rfl, hq⟩, hb⟩
  obtain ⟨cs, bs, off, c3, rfl, hz, hone, h38, hlt, hat⟩ := head12 hq HM.out HSM.out (Nat.le_of_eq HSZ.out.symm)
  have HO3 := Lib.hid (HO2.out.below hb)
  have HB3 := Lib.hid (HB2.out.trans (hb.mono HB2.out.size))
  have HAT := Lib.hid (And.intro hlt hat)
  have H38 := Lib.hid h38
  clear hq hb HO2 HB2 HSM HSZ hcv h38 hlt hat
  go_upto_region 3 with (refine wpList_store_row rfl 41 _ _ rfl w3.heap.size cs rfl rfl 41 _ (heap_alloc_new _ _) (by rw [hz]; rfl) (by rw [hz]; rfl) hone ?_)
  rw [zero_head]
  have hg4 := setRow_heap (w3.alloc (.cells (headC 0 0 0 0 0 0) 41)) w3.heap.size _ cs _ _ (heap_alloc_new _ _)
  have hb34 : Below w3.heap.size w3 ((w3.alloc (.cells (headC 0 0 0 0 0 0) 41)).setRow w3.heap.size cs) := below_setRow ((Below.refl _ w3).alloc (Nat.le_refl _) _) (Nat.le_refl _) _
  have HO4 := Lib.hid (HO3.out.below hb34)
  have HB4 := Lib.hid (HB3.out.trans (hb34.mono HB3.out.size))
  have HAT4 := Lib.hid ((hb34.cell (p := ⟨bs, off + 4, none⟩) HAT.out.1).trans HAT.out.2)
  have HL4 := Lib.hid (show bs < w3.heap.size ∧ w3.heap.size < ((w3.alloc (.cells (headC 0 0 0 0 0 0) 41)).setRow w3.heap.size cs).heap.size from ⟨HAT.out.1, lt_of_row' hg4⟩)
  have k38 := (cell_of_row _ _ 38 _ _ _ hg4).trans H38.out
  clear hb34 HO3 HB3 HAT H38 hz hone hg4
  generalize (w3.alloc (.cells (headC 0 0 0 0 0 0) 41)).setRow w3.heap.size cs = w4 at *
  generalize w3.heap.size = G at *
  go_wp2_with (at_make; refine wpList_makeC rfl _ _ rfl w4.heap.size .i64 .i64 4160 rfl rfl (by omega) (Nat.le_refl _) ?_; intro w5 ho hb hs; have HA5 := Lib.hid ho; have HB45 := Lib.hid hb; clear ho hb hs)
  have HO5 := Lib.hid (HO4.out.below HB45.out)
  have HGL := Lib.hid (show g < w4.heap.size from HO4.out.lt)
  have HB5 := Lib.hid (HB4.out.trans (HB45.out.mono HB4.out.size))
  have K38 := Lib.hid ((HB45.out.cell (p := ⟨G, 38, none⟩) HL4.out.2).trans k38)
  have KAT := Lib.hid ((HB45.out.cell (p := ⟨bs, off + 4, none⟩) (by have := HL4.out; show bs < w4.heap.size; omega)).trans HAT4.out)
  have KL := Lib.hid (show bs < w5.heap.size ∧ G < w5.heap.size from by have := HL4.out; have := HB45.out.size; omega)
  have HAA := Lib.hid HA5.out
  have HGA := Lib.hid (show bs < w4.heap.size ∧ G < w4.heap.size ∧ w1.heap.size ≤ w4.heap.size ∧ w4.heap.size ≤ w5.heap.size ∧ w.heap.size ≤ w4.heap.size from ⟨by have := HL4.out; omega, HL4.out.2, HB4.out.size, HB45.out.size, Nat.le_trans HB0.out.size HB4.out.size⟩)
  have HB05 := Lib.hid (HB0.out.trans (HB5.out.mono HB0.out.size))
  clear k38 HO4 HB4 HAT4 HL4 HA5 HB45 HB0
  obtain ⟨GA, hGA⟩ : ∃ q, w4.heap.size = q := ⟨_, rfl⟩
  rw [hGA] at HAA HGA HGL ⊢
  clear hGA
  go_loopw [5, 8, 9] (fun v5 v8 v9 wr => ∃ (i gb cb ga na ca : Nat) (fb fa : Nat → Int), (i ≤ 6 ∧ gb ≠ ga) ∧ v9 = .int .i64 i ∧ v5 = .slice (some ⟨gb, 0, none⟩) 8704 cb ∧ OwnC wr w.heap.size gb 8704 cb fb ∧ SameH 1 F fb ∧ v8 = .slice (some ⟨ga, 0, none⟩) na ca ∧ OwnC wr GA ga na ca fa ∧ 4160 ≤ na ∧ na ≤ bdN i ∧ Below GA w5 wr) (fun _ _ v9 _ => 6 - (intOf v9).toNat)
  case atStart => exact ⟨0, g, c, GA, 4160, 4160, F, _, ⟨by omega, by have := HGL.out; omega⟩, rfl, rfl, HO5.out, SameH.refl _ _, rfl, HAA.out, by omega, by decide, Below.refl _ _⟩
  case round =>
    obtain ⟨i, gb, cb, ga, na, ca, fb, fa, ⟨hi, hgg⟩, rfl, rfl, hob, hsh, rfl, hoa, hna0, hna, hbw⟩ := hrel
    have HOB := Lib.hid hob
    have HSH := Lib.hid hsh
    have HOA := Lib.hid hoa
    have HNA := Lib.hid (And.intro hna0 hna)
    have HGG := Lib.hid hgg
    have HBW := Lib.hid hbw
    clear hgg hob hsh hoa hna0 hna hbw HO5 HAA
    by_cases hlt : i < 6
    · have hz0 : (0 : Int) ≤ (i : Int) := by omega
      have hlt' : (i : Int) < 6 := by omega
      have c0 := HCL.out wr (HB5.out.trans (HBW.out.mono HGA.out.2.2.1)) 0 (.int .i64 p.wh) rfl
      have HI := Lib.hid hlt
      go_upto_region 13 with fail
      case roundEnd =>
        refine ⟨⟨i + 1, gb, cb, ga, na, ca, fb, fa, ⟨by have := HI.out; omega, HGG.out⟩, by go_num, rfl, HOB.out, HSH.out, rfl, HOA.out, HNA.out.1, ?_, HBW.out⟩, by have := HI.out; simp [intOf]; omega⟩
        have h1 := HNA.out.2
        have h2 := HI.out
        rcases (by omega : i = 0 ∨ i = 1 ∨ i = 2 ∨ i = 3 ∨ i = 4 ∨ i = 5) with rfl | rfl | rfl | rfl | rfl | rfl <;> exact Nat.le_trans h1 (by decide)
      generalize hwd : wr.alloc _ = wd
      obtain ⟨P, hPe⟩ : ∃ P, wr.heap.size = P := ⟨_, rfl⟩
      have hbd : Below wr.heap.size wr wd := by rw [← hwd]; exact (Below.refl _ _).alloc (Nat.le_refl _) _
      have hzd : wd.heap[P]? = some (.cells #[.int .i64 (na : Int), .int .i64 0] 37 (0, 0)) := by rw [← hwd, ← hPe]; exact heap_alloc_new wr _
      have HBD := Lib.hid hbd
      have HZD := Lib.hid hzd
      have HPE := Lib.hid hPe
      have HB1D := Lib.hid (HB5.out.trans ((HBW.out.trans (hbd.mono (Nat.le_trans HGA.out.2.2.2.1 HBW.out.size))).mono HGA.out.2.2.1))
      have HB0D := Lib.hid (HB05.out.trans ((HBW.out.trans (hbd.mono (Nat.le_trans HGA.out.2.2.2.1 HBW.out.size))).mono HGA.out.2.2.2.2))
      rw [hPe]
      clear hwd hbd hzd hPe c0 hz0 hlt'
      go_upto_block 2 with fail
      generalize p.wh / 2 ^ i = pw
      go_cut [10, 12, 13] from 43 to 90 (fun v10 v12 v13 wx => MkQ wr na (bdN (i + 1)) v10 v12 v13 wx)
      case first =>
        have hna := HNA.out.2
        have hi6 := HI.out
        have hPP := HPB.out wd HB0D.out
        rcases (by omega : i = 0 ∨ i = 1 ∨ i = 2 ∨ i = 3 ∨ i = 4 ∨ i = 5) with rfl | rfl | rfl | rfl | rfl | rfl
        · have hna' : na ≤ 4160 := hna
          have c1 := HCL.out wd HB1D.out 1 (.slice p.fA p.fn p.fc) rfl
          have c2 := HCL.out wd HB1D.out 2 (.slice p.nA p.nn p.nc) rfl
          have HC := Lib.hid (at7w na (by omega) p.fA p.fn p.fc p.fS p.nA p.nn p.nc p.nS wd hPP.f hPP.n HLN.out.f HLN.out.n HFW.out.f HFW.out.n)
          clear hPP
          go_wp2_with fail
          refine HC.out.mono ?_
          rintro e wx ⟨gi, ci, n, f, a, b, rfl, h1, h2, ho, hb⟩
          have HX := Lib.hid (And.intro h1 (And.intro (show n ≤ bdN 1 by show n ≤ 9500; omega) ho))
          have HBX := Lib.hid (HBD.out.trans (hb.mono HBD.out.size))
          have HZX := Lib.hid ((hb.block P (lt_of_row' HZD.out)).trans HZD.out)
          have HNE := Lib.hid (show gi ≠ P by have := lt_of_row' HZD.out; have := ho.le; omega)
          clear h1 h2 ho hb c1 c2 hna hna' HC
          go_wp2_with (refine wpList_store_row rfl 37 (.tmp 12) (.tmp 58) rfl P #[.int .i64 a, .int .i64 b] rfl rfl 37 _ HZX.out rfl rfl (by simp [Value.oneCell']) ?_)
          go_meet
          case rel =>
            have hz := setRow_heap wx P _ #[.int .i64 a, .int .i64 b] _ _ HZX.out
            refine ⟨gi, n, ci, 0, P, f, a, b, rfl, (HX.out.2.2.setRow HNE.out _).rowB, HX.out.1, HX.out.2.1, rfl, lt_of_row' hz, by rw [cell_of_row' hz]; rfl, by rw [cell_of_row' hz]; rfl, ?_, by omega, below_setRow HBX.out (Nat.le_of_eq HPE.out) _, Nat.le_of_eq HPE.out⟩
            rfl
        · have hna' : na ≤ 9500 := hna
          have c3 := HCL.out wd HB1D.out 3 (.slice p.iA p.im p.ic) rfl
          have HC := Lib.hid (at8w na (by omega) false p.iA p.im p.ic p.iX wd hPP.i HFW.out.i HFW.out.is)
          have hlen := at8_len na false p.iX p.im HFW.out.is
          obtain ⟨bs8, hbs8⟩ : ∃ q, at8 na (pimOf p.iX p.im) false = q := ⟨_, rfl⟩
          rw [hbs8] at HC hlen
          have HX := Lib.hid (And.intro hlen.1 (show bs8.length ≤ bdN 2 by show bs8.length ≤ 171000; omega))
          clear hPP hlen hbs8 hna hna'
          go_wp2_with fail
          refine HC.out.mono ?_
          rintro e wx ⟨gi, ci, rfl, ho, hb⟩
          have HO := Lib.hid (ownD_c ho).rowB
          have HBX := Lib.hid (HBD.out.trans (hb.mono HBD.out.size))
          have HZX := Lib.hid ((hb.block P (lt_of_row' HZD.out)).trans HZD.out)
          clear ho hb c3 HC
          go_wp2_with fail
          go_meet
          case rel => exact ⟨gi, bs8.length, ci, 1, P, _, _, _, rfl, HO.out, HX.out.1, HX.out.2, rfl, lt_of_row' HZX.out, by rw [cell_of_row' HZX.out]; rfl, by rw [cell_of_row' HZX.out]; rfl, rfl, by omega, HBX.out, Nat.le_of_eq HPE.out⟩
        · have hna' : na ≤ 171000 := hna
          have hn0 := HNA.out.1
          have c5 := HCL.out wd HB1D.out 5 (.slice p.rA p.rL.length p.rc) rfl
          have HC := Lib.hid (apart_any p.rA p.rL p.rc na wd hPP.r HLN.out.r (by omega) (by omega))
          have HR := Lib.hid (fun L l cap W hL h1 h2 => relw na (by omega) (by omega) L l cap W hL h1 h2)
          clear hPP hn0 hna
          go_wp2_with fail
          refine HC.out.mono ?_
          rintro e wx ⟨l, A, cap, rfl, ho, hapt, hb⟩
          have HBX := Lib.hid (HBD.out.trans (hb.mono HBD.out.size))
          have HZX := Lib.hid ((hb.block P (lt_of_row' HZD.out)).trans HZD.out)
          have HRR := Lib.hid (HR.out A l cap wx (ho.sl relC_len) (by have := hapt.len; omega) (fun x hx => ⟨by have := hapt.kinds x hx; omega, hapt.low x hx⟩))
          clear ho hapt hb c5 HC HR
          go_wp2_with fail
          refine HRR.out.mono ?_
          rintro e wy ⟨gi, ci, n, f, a, b, rfl, h1, h2, ho, hb⟩
          have HX := Lib.hid (And.intro h1 (And.intro (show n ≤ bdN 3 by show n ≤ 172000; omega) ho))
          have HBY := Lib.hid (HBX.out.trans (hb.mono HBX.out.size))
          have HZY := Lib.hid ((hb.block P (lt_of_row' HZX.out)).trans HZX.out)
          clear h1 h2 ho hb HRR hna'
          go_wp2_with (refine wpList_store_row rfl 37 (.tmp 12) (.tmp 75) rfl P #[.int .i64 a, .int .i64 b] rfl rfl 37 _ HZY.out rfl rfl (by simp [Value.oneCell']) ?_)
          go_meet
          case rel =>
            have hz := setRow_heap wy P _ #[.int .i64 a, .int .i64 b] _ _ HZY.out
            have hr := HX.out.2.2
            have hne : gi ≠ P := by
              intro e
              subst e
              have k1 := hr.row 0 (by have := HX.out.1; have := HNA.out.1; omega)
              rw [cell_of_row' HZY.out] at k1
              cases k1
            exact ⟨gi, n, ci, 5, P, f, a, b, rfl, ⟨fun j hj => by rw [World.cell?_of_block (a := ⟨gi, _, none⟩) (setRow_other _ _ _ _ hne)]; exact hr.row j hj, hr.by255, by simpa [World.setRow] using hr.lt, hr.len, hr.most⟩, HX.out.1, HX.out.2.1, rfl, lt_of_row' hz, by rw [cell_of_row' hz]; rfl, by rw [cell_of_row' hz]; rfl, rfl, by omega, below_setRow HBY.out (Nat.le_of_eq HPE.out) _, Nat.le_of_eq HPE.out⟩
        · have hna' : na ≤ 172000 := hna
          have c7 := HCL.out wd HB1D.out 7 (.int .i64 p.ix) rfl
          have c8 := HCL.out wd HB1D.out 8 (.slice p.cA p.cL.length p.cc) rfl
          have HC := Lib.hid (at11w na (by omega) 65536 (bits .and .i64 p.ix 4095) p.cA p.cL p.cc wd hPP.c HLN.out.c)
          clear hPP hna
          go_wp2_with fail
          refine HC.out.mono ?_
          rintro e wx ⟨gi, ci, n, f, rfl, h1, h2, ho, hb⟩
          have HX := Lib.hid (And.intro h1 (And.intro (show n ≤ bdN 4 by show n ≤ 173000; omega) ho.rowB))
          have HBX := Lib.hid (HBD.out.trans (hb.mono HBD.out.size))
          have HZX := Lib.hid ((hb.block P (lt_of_row' HZD.out)).trans HZD.out)
          clear h1 h2 ho hb c7 c8 HC hna'
          go_wp2_with fail
          go_meet
          case rel => exact ⟨gi, n, ci, 9, P, f, _, _, rfl, HX.out.2.2, HX.out.1, HX.out.2.1, rfl, lt_of_row' HZX.out, by rw [cell_of_row' HZX.out]; rfl, by rw [cell_of_row' HZX.out]; rfl, rfl, by omega, HBX.out, Nat.le_of_eq HPE.out⟩
        · have hna' : na ≤ 173000 := hna
          have c6 := HCL.out wd HB1D.out 6 (.slice p.bA p.bL.length p.bc) rfl
          have HC := Lib.hid (at9w na (by omega) p.bA p.bL p.bc wd hPP.b HFW.out.b HFW.out.bs)
          clear hPP hna
          go_wp2_with fail
          refine HC.out.mono ?_
          rintro e wx ⟨gi, ci, n, f, rfl, h1, h2, ho, hb⟩
          have HX := Lib.hid (And.intro h1 (And.intro (show n ≤ bdN 5 by show n ≤ 178000; omega) ho.rowB))
          have HBX := Lib.hid (HBD.out.trans (hb.mono HBD.out.size))
          have HZX := Lib.hid ((hb.block P (lt_of_row' HZD.out)).trans HZD.out)
          clear h1 h2 ho hb c6 HC hna'
          go_wp2_with fail
          go_meet
          case rel => exact ⟨gi, n, ci, 11, P, f, _, _, rfl, HX.out.2.2, HX.out.1, HX.out.2.1, rfl, lt_of_row' HZX.out, by rw [cell_of_row' HZX.out]; rfl, by rw [cell_of_row' HZX.out]; rfl, rfl, by omega, HBX.out, Nat.le_of_eq HPE.out⟩
        · have hna' : na ≤ 178000 := hna
          have c4 := HCL.out wd HB1D.out 4 (.slice p.lA p.lm p.lc) rfl
          have HC := Lib.hid (at8w na (by omega) true p.lA p.lm p.lc p.lX wd hPP.l HFW.out.l HFW.out.ls)
          have hlen := at8_len na true p.lX p.lm HFW.out.ls
          obtain ⟨bs8, hbs8⟩ : ∃ q, at8 na (pimOf p.lX p.lm) true = q := ⟨_, rfl⟩
          rw [hbs8] at HC hlen
          have HX := Lib.hid (And.intro hlen.1 (show bs8.length ≤ bdN 6 by show bs8.length ≤ 340000; omega))
          clear hPP hlen hbs8 hna hna'
          go_wp2_with fail
          refine HC.out.mono ?_
          rintro e wx ⟨gi, ci, rfl, ho, hb⟩
          have HO := Lib.hid (ownD_c ho).rowB
          have HBX := Lib.hid (HBD.out.trans (hb.mono HBD.out.size))
          have HZX := Lib.hid ((hb.block P (lt_of_row' HZD.out)).trans HZD.out)
          clear ho hb c4 HC
          go_wp2_with fail
          go_meet
          case rel => exact ⟨gi, bs8.length, ci, 13, P, _, _, _, rfl, HO.out, HX.out.1, HX.out.2, rfl, lt_of_row' HZX.out, by rw [cell_of_row' HZX.out]; rfl, by rw [cell_of_row' HZX.out]; rfl, rfl, by omega, HBX.out, Nat.le_of_eq HPE.out⟩
      case rest =>
        obtain ⟨gi, n, ci, k, P', f, a, b, rfl, hr, hst, hbn, rfl, hP, hd0, hd1, rfl, hk, hbx, hPge⟩ := hcut
        have hoalt := HOA.out.lt
        have HR := Lib.hid hr
        have HN := Lib.hid (show na ≤ n ∧ n ≤ bdN (i + 1) ∧ n ≤ 340000 ∧ k ≤ 13 from ⟨hst, hbn, Nat.le_trans hbn (by have := HI.out; rcases (by omega : i = 0 ∨ i = 1 ∨ i = 2 ∨ i = 3 ∨ i = 4 ∨ i = 5) with rfl | rfl | rfl | rfl | rfl | rfl <;> decide), hk⟩)
        have HBX := Lib.hid hbx
        have HPL := Lib.hid (show P' < wc.heap.size ∧ P' ≠ ga from ⟨hP, by have := hoalt; omega⟩)
        have HD := Lib.hid (And.intro hd0 hd1)
        have HOAX := Lib.hid (HOA.out.below hbx)
        have HOBX := Lib.hid (HOB.out.below hbx)
        have HBWX := Lib.hid (HBW.out.trans (hbx.mono (Nat.le_trans HGA.out.2.2.2.1 HBW.out.size)))
        have e15 : ((15 : Int) == (i : Int)) = false := by rw [beq_eq_false_iff_ne]; have := HI.out; omega
        have hnlt : ¬ (n : Int) < (na : Int) := by omega
        have e15n : ¬ (15 : Int) = (i : Int) := by have := HI.out; omega
        have e15b : bits .and .i64 15 15 = 15 := by rfl
        have hsl0 : (0 : Int) ≤ (na : Int) := by omega
        have hsl1 : (na : Int) ≤ (n : Int) := by omega
        have hsl2 : (n : Int) ≤ (ci : Int) := by have := hr.len; omega
        have HS2 := Lib.hid (show SlB wc (if ci = na then some ⟨gi, 0, none⟩ else some ⟨gi, na, none⟩) (n - na) (fun j => f (na + j)) from by
          have h3 := hr.len
          split
          · exact .inr ⟨gi, 0, rfl, hr.lt, fun j hj => by omega⟩
          · exact .inr ⟨gi, na, rfl, hr.lt, fun j hj => by have := hr.row (na + j) (by omega); rw [Nat.zero_add] at this; exact this⟩)
        have H255 := Lib.hid (show Bytes255 (fun j => f (na + j)) from fun j => hr.by255 _)
        clear hr hst hbn hd0 hd1 hk hbx hP hPge hoalt HZD HBD HPE HB1D HB0D
        go_upto_region 30 with (at_builtin; go_loud (refine wpList_appKeep rfl _ _ rfl HOAX.out HS2.out H255.out (by have := HN.out; have := HNA.out; omega) (Nat.le_trans HGA.out.2.2.2.1 HBWX.out.size) rfl rfl ?_; intro g6 c6 w6 ho hb hk; have HO6 := Lib.hid ho; have HB6 := Lib.hid hb; have HK6 := Lib.hid hk; clear ho hb hk))
        have HBW6 := Lib.hid (HBWX.out.trans HB6.out)
        have HP6 := Lib.hid (HK6.out P' HPL.out.1 HPL.out.2)
        have HPL6 := Lib.hid (show P' < w6.heap.size from Nat.lt_of_lt_of_le HPL.out.1 HB6.out.size)
        have HOB6 := Lib.hid (HOBX.out.of_block HB6.out.size (HK6.out gb HOBX.out.lt HGG.out))
        obtain ⟨y0, hy0, ha0, ha1⟩ := u64_some a
        obtain ⟨y1, hy1, hb0, hb1⟩ := u64_some b
        have HY0 := Lib.hid (fun W : World => rbytes_any y0 4 4 W ha0 ha1 (by omega))
        have HY1 := Lib.hid (fun W : World => rbytes_any y1 4 4 W hb0 hb1 (by omega))
        obtain ⟨at_, hat⟩ : ∃ q : Nat, 200 + 8 * k = q := ⟨_, rfl⟩
        have HAT := Lib.hid (show 200 ≤ at_ ∧ at_ + 8 ≤ 328 from by have := HN.out.2.2.2; omega)
        have hw1 : IntKind.i64.wrap (8 * (k : Int)) = 8 * (k : Int) := by have := HN.out.2.2.2; rw [IntKind.wrap_i64]; omega
        have hw2 : IntKind.i64.wrap (200 + 8 * (k : Int)) = (at_ : Int) := by have := HN.out.2.2.2; rw [IntKind.wrap_i64]; omega
        have hadd := fun (W : World) => run_string_add_sum (P := Tryz.prog) W (strF (byteOf y0) 0 4) (strF (byteOf y1) 0 4) (by rw [strF_size, strF_size]; omega)
        clear ha0 ha1 hb0 hb1 hat
        have HS := Lib.hid (show Below w6.heap.size w6 w6.drew from (Below.refl _ _).drew)
        refine wp_region_noPanic ?_
        refine wp_region_K (fun W => Below w6.heap.size w6 W) (fun _ => True) 99 (by kernel_rfl) ?_
        refine wpAnyK_take (i := 0) (oi := ?_) (v := ?_) ?_ (by kernel_rfl) (by kernel_rfl) (by kernel_rfl) (fun _ _ _ h => h) (by decide) ?_ HS.out (fun _ => trivial) ?_
        rotate_left 2
        · (simp only [List.getElem?_toArray, List.getElem?_cons_succ, List.getElem?_cons_zero]; rfl)
        · (first | exact Or.inr ⟨by rfl, rfl⟩ | (refine Or.inl ⟨by rfl, ?_⟩; intro W hSw; clear hSw; go_simp; try with_reducible rfl))
        try simp only [Act.put, List.setIfInBounds_toArray, List.set_cons_zero, List.set_cons_succ]
        refine wpAnyK_take (i := 1) (oi := ?_) (v := ?_) ?_ (by kernel_rfl) (by kernel_rfl) (by kernel_rfl) (fun _ _ _ h => h) (by decide) ?_ HS.out (fun _ => trivial) ?_
        rotate_left 2
        · (simp only [List.getElem?_toArray, List.getElem?_cons_succ, List.getElem?_cons_zero]; rfl)
        · (first | exact Or.inr ⟨by rfl, rfl⟩ | (refine Or.inl ⟨by rfl, ?_⟩; intro W hSw; clear hSw; go_simp; try with_reducible rfl))
        try simp only [Act.put, List.setIfInBounds_toArray, List.set_cons_zero, List.set_cons_succ]
        refine wpAnyK_take (i := 2) (oi := ?_) (v := ?_) ?_ (by kernel_rfl) (by kernel_rfl) (by kernel_rfl) (fun _ _ _ h => h) (by decide) ?_ HS.out (fun _ => trivial) ?_
        rotate_left 2
        · (simp only [List.getElem?_toArray, List.getElem?_cons_succ, List.getElem?_cons_zero]; rfl)
        · (first | exact Or.inr ⟨by rfl, rfl⟩ | (refine Or.inl ⟨by rfl, ?_⟩; intro W hSw; clear hSw; go_simp; try with_reducible rfl))
        try simp only [Act.put, List.setIfInBounds_toArray, List.set_cons_zero, List.set_cons_succ]
        refine wpAnyK_take (i := 3) (oi := ?_) (v := ?_) ?_ (by kernel_rfl) (by kernel_rfl) (by kernel_rfl) (fun _ _ _ h => h) (by decide) ?_ HS.out (fun _ => trivial) ?_
        rotate_left 2
        · (simp only [List.getElem?_toArray, List.getElem?_cons_succ, List.getElem?_cons_zero]; rfl)
        · (first | exact Or.inr ⟨by rfl, rfl⟩ | (refine Or.inl ⟨by rfl, ?_⟩; intro W hSw; clear hSw; go_simp; try with_reducible rfl))
        try simp only [Act.put, List.setIfInBounds_toArray, List.set_cons_zero, List.set_cons_succ]
        refine wpAnyK_take (i := 4) (oi := ?_) (v := ?_) ?_ (by kernel_rfl) (by kernel_rfl) (by kernel_rfl) (fun _ _ _ h => h) (by decide) ?_ HS.out (fun _ => trivial) ?_
        rotate_left 2
        · (simp only [List.getElem?_toArray, List.getElem?_cons_succ, List.getElem?_cons_zero]; rfl)
        · (first | exact Or.inr ⟨by rfl, rfl⟩ | (refine Or.inl ⟨by rfl, ?_⟩; intro W hSw; clear hSw; go_simp; try with_reducible rfl))
        try simp only [Act.put, List.setIfInBounds_toArray, List.set_cons_zero, List.set_cons_succ]
        refine wpAnyK_take (i := 5) (oi := ?_) (v := ?_) ?_ (by kernel_rfl) (by kernel_rfl) (by kernel_rfl) (fun _ _ _ h => h) (by decide) ?_ HS.out (fun _ => trivial) ?_
        rotate_left 2
        · (simp only [List.getElem?_toArray, List.getElem?_cons_succ, List.getElem?_cons_zero]; rfl)
        · (first | exact Or.inr ⟨by rfl, rfl⟩ | (refine Or.inl ⟨by rfl, ?_⟩; intro W hSw; have hk := (World.cell?_of_block (a := ⟨P', 0, none⟩) ((hSw.block P' HPL6.out).trans HP6.out)).trans HD.out.1; clear hSw; go_simp; try with_reducible rfl))
        try simp only [Act.put, List.setIfInBounds_toArray, List.set_cons_zero, List.set_cons_succ]
        refine wpAnyK_take (i := 6) (oi := ?_) (v := ?_) ?_ (by kernel_rfl) (by kernel_rfl) (by kernel_rfl) (fun _ _ _ h => h) (by decide) ?_ HS.out (fun _ => trivial) ?_
        rotate_left 2
        · (simp only [List.getElem?_toArray, List.getElem?_cons_succ, List.getElem?_cons_zero]; rfl)
        · (first | exact Or.inr ⟨by rfl, rfl⟩ | (refine Or.inl ⟨by rfl, ?_⟩; intro W hSw; clear hSw; go_simp; try with_reducible rfl))
        try simp only [Act.put, List.setIfInBounds_toArray, List.set_cons_zero, List.set_cons_succ]
        refine wpAnyK_take (i := 8) (oi := ?_) (v := ?_) ?_ (by kernel_rfl) (by kernel_rfl) (by kernel_rfl) (fun _ _ _ h => h) (by decide) ?_ HS.out (fun _ => trivial) ?_
        rotate_left 2
        · (simp only [List.getElem?_toArray, List.getElem?_cons_succ, List.getElem?_cons_zero]; rfl)
        · (first | exact Or.inr ⟨by rfl, rfl⟩ | (refine Or.inl ⟨by rfl, ?_⟩; intro W hSw; clear hSw; go_simp; try with_reducible rfl))
        try simp only [Act.put, List.setIfInBounds_toArray, List.set_cons_zero, List.set_cons_succ]
        refine wpAnyK_take (i := 9) (oi := ?_) (v := ?_) ?_ (by kernel_rfl) (by kernel_rfl) (by kernel_rfl) (fun _ _ _ h => h) (by decide) ?_ HS.out (fun _ => trivial) ?_
        rotate_left 2
        · (simp only [List.getElem?_toArray, List.getElem?_cons_succ, List.getElem?_cons_zero]; rfl)
        · (first | exact Or.inr ⟨by rfl, rfl⟩ | (refine Or.inl ⟨by rfl, ?_⟩; intro W hSw; have hk := (World.cell?_of_block (a := ⟨P', 1, none⟩) ((hSw.block P' HPL6.out).trans HP6.out)).trans HD.out.2; clear hSw; go_simp; try with_reducible rfl))
        try simp only [Act.put, List.setIfInBounds_toArray, List.set_cons_zero, List.set_cons_succ]
        refine wpAnyK_take (i := 10) (oi := ?_) (v := ?_) ?_ (by kernel_rfl) (by kernel_rfl) (by kernel_rfl) (fun _ _ _ h => h) (by decide) ?_ HS.out (fun _ => trivial) ?_
        rotate_left 2
        · (simp only [List.getElem?_toArray, List.getElem?_cons_succ, List.getElem?_cons_zero]; rfl)
        · (first | exact Or.inr ⟨by rfl, rfl⟩ | (refine Or.inl ⟨by rfl, ?_⟩; intro W hSw; clear hSw; go_simp; try with_reducible rfl))
        try simp only [Act.put, List.setIfInBounds_toArray, List.set_cons_zero, List.set_cons_succ]
        refine wpAnyK_one (i := 7) (o := ?_) (by kernel_rfl) ?_ (fun K hK => ?_)
        rotate_left 1
        · (simp only [List.getElem?_toArray, List.getElem?_cons_succ, List.getElem?_cons_zero]; rfl)
        go_simp
        go_at_call 10
        refine (HY0.out _).mono ?_
        rintro e w7 ⟨rfl, hw7⟩
        have HS3 := Lib.hid (HS.out.trans (hw7.mono HS.out.size))
        clear hw7
        refine hK.out _ _ HS3.out (fun _ => trivial) ?_
        clear hK K
        try simp only [Act.put, List.setIfInBounds_toArray, List.set_cons_zero, List.set_cons_succ]
        refine wpAnyK_one (i := 11) (o := ?_) (by kernel_rfl) ?_ (fun K hK => ?_)
        rotate_left 1
        · (simp only [List.getElem?_toArray, List.getElem?_cons_succ, List.getElem?_cons_zero]; rfl)
        go_simp
        go_at_call 10
        refine (HY1.out _).mono ?_
        rintro e w8 ⟨rfl, hw8⟩
        have HS4 := Lib.hid (HS3.out.trans (hw8.mono HS3.out.size))
        clear hw8
        refine hK.out _ _ HS4.out (fun _ => trivial) ?_
        clear hK K
        try simp only [Act.put, List.setIfInBounds_toArray, List.set_cons_zero, List.set_cons_succ]
        refine wpAnyK_take (i := 12) (oi := ?_) (v := ?_) ?_ (by kernel_rfl) (by kernel_rfl) (by kernel_rfl) (fun _ _ _ h => h) (by decide) ?_ HS4.out (fun _ => trivial) ?_
        rotate_left 2
        · (simp only [List.getElem?_toArray, List.getElem?_cons_succ, List.getElem?_cons_zero]; rfl)
        · (first | exact Or.inr ⟨by rfl, rfl⟩ | (refine Or.inl ⟨by rfl, ?_⟩; intro W hSw; clear hSw; go_simp; try with_reducible rfl))
        try simp only [Act.put, List.setIfInBounds_toArray, List.set_cons_zero, List.set_cons_succ]
        obtain ⟨C9, w10, hcv, ho9, hw10⟩ := conv_own w8 (strF (byteOf y0) 0 4 ++ strF (byteOf y1) 0 4) (by rw [ByteArray.size_append, strF_size, strF_size]; omega)
        rw [show (strF (byteOf y0) 0 4 ++ strF (byteOf y1) 0 4).size = 8 by rw [ByteArray.size_append, strF_size, strF_size]] at hcv ho9
        generalize PlainAid.bt (strF (byteOf y0) 0 4 ++ strF (byteOf y1) 0 4) = h9 at ho9
        refine wpAnyK_one (i := 13) (o := ?_) (by kernel_rfl) ?_ (fun K hK => ?_)
        rotate_left 1
        · (simp only [List.getElem?_toArray, List.getElem?_cons_succ, List.getElem?_cons_zero]; rfl)
        go_simp
        have HS5 := Lib.hid (HS4.out.trans (hw10.mono HS4.out.size))
        have HO9 := Lib.hid ho9
        clear hw10 hcv ho9
        refine hK.out _ _ HS5.out (fun _ => trivial) ?_
        clear hK K
        try simp only [Act.put, List.setIfInBounds_toArray, List.set_cons_zero, List.set_cons_succ]
        refine wpAnyK_one (i := 14) (o := ?_) (by kernel_rfl) ?_ (fun K hK => ?_)
        rotate_left 1
        · (simp only [List.getElem?_toArray, List.getElem?_cons_succ, List.getElem?_cons_zero]; rfl)
        go_simp
        go_at_call 9
        refine (over_any gb 0 8704 cb fb at_ w8.heap.size 0 8 C9 h9 w10 (HOB6.out.below HS5.out).rowB HO9.out.rowB (by omega) (by omega) (by have := HAT.out; omega)).mono ?_
        rintro e w11 ⟨g11, c11, rfl, ho11, hw11⟩
        have HS6 := Lib.hid (HS5.out.trans (hw11.mono HS5.out.size))
        have HO11 := Lib.hid ho11
        have HG11 := Lib.hid (show w6.heap.size ≤ g11 from Nat.le_trans HS5.out.size ho11.le)
        clear ho11 hw11
        refine hK.out _ _ HS6.out (fun _ => trivial) ?_
        clear hK K
        try simp only [Act.put, List.setIfInBounds_toArray, List.set_cons_zero, List.set_cons_succ]
        refine wpAnyK_take (i := 15) (oi := ?_) (v := ?_) ?_ (by kernel_rfl) (by kernel_rfl) (by kernel_rfl) (fun _ _ _ h => h) (by decide) ?_ HS6.out (fun _ => trivial) ?_
        rotate_left 2
        · (simp only [List.getElem?_toArray, List.getElem?_cons_succ, List.getElem?_cons_zero]; rfl)
        · (first | exact Or.inr ⟨by rfl, rfl⟩ | (refine Or.inl ⟨by rfl, ?_⟩; intro W hSw; clear hSw; go_simp; try with_reducible rfl))
        try simp only [Act.put, List.setIfInBounds_toArray, List.set_cons_zero, List.set_cons_succ]
        refine wpAnyK_done (by kernel_rfl) ?_ _
        refine NoPanic.normal ?_
        go_wp2_with fail
        go_roundw
        case rel => exact ⟨i + 1, g11, c11, g6, na + (n - na), c6, _, _, ⟨by have := HI.out; omega, by have := HG11.out; have := HO6.out.lt; omega⟩, by go_num, rfl, HO11.out.weaken (Nat.le_trans HGA.out.2.2.2.2 (Nat.le_trans HGA.out.2.2.2.1 (Nat.le_trans HBW6.out.size HS5.out.size))), HSH.out.trans (SameH.over _ _ _ _ (.inl HAT.out)), rfl, HO6.out.below HS6.out, by have := HNA.out.1; omega, by have := HN.out; omega, HBW6.out.trans (HS6.out.mono (Nat.le_trans HGA.out.2.2.2.1 HBW6.out.size))⟩
        case measure => have := HI.out; simp [intOf]; omega
    · obtain rfl : i = 6 := by omega
      go_upto_region 31 with fail
      have HRA := Lib.hid (show RowB wr ga 4096 (na - 4096) (ca - 4096) (fun j => fa (4096 + j)) from ⟨fun j hj => by have := HOA.out.row (4096 + j) (by have := HNA.out; omega); rw [Nat.zero_add] at this; exact this, fun j => HOA.out.by255 _, HOA.out.lt, by have := HOA.out.len; omega, by have := HOA.out.most; omega⟩)
      have HOV := Lib.hid (fun W (hW : Below wr.heap.size wr W) => over_any gb 0 8704 cb fb 1024 ga 4096 (na - 4096) (ca - 4096) (fun j => fa (4096 + j)) W (HOB.out.below hW).rowB (HRA.out.below hW) (by omega) (by have h1 := HNA.out.2; have h2 : bdN 6 ≤ 340000 := (by decide); omega) (by omega))
      have hl1 : (4096 : Int) ≤ (na : Int) := by have := HNA.out.1; omega
      have hl2 : (na : Int) ≤ (ca : Int) := by have := HOA.out.len; omega
      have hl3 : ¬ ca = 4096 := by have := HNA.out.1; omega
      have HS := Lib.hid (show Below wr.heap.size wr wr.drew from (Below.refl _ _).drew)
      refine wp_region_noPanic ?_
      refine wp_region_K (fun W => Below wr.heap.size wr W) (fun _ => True) 99 (by kernel_rfl) ?_
      refine wpAnyK_take (i := 0) (oi := ?_) (v := ?_) ?_ (by kernel_rfl) (by kernel_rfl) (by kernel_rfl) (fun _ _ _ h => h) (by decide) ?_ HS.out (fun _ => trivial) ?_
      rotate_left 2
      · (simp only [List.getElem?_toArray, List.getElem?_cons_succ, List.getElem?_cons_zero]; rfl)
      · (first | exact Or.inr ⟨by rfl, rfl⟩ | (refine Or.inl ⟨by rfl, ?_⟩; intro W hSw; clear hSw; go_simp; try with_reducible rfl))
      try simp only [Act.put, List.setIfInBounds_toArray, List.set_cons_zero, List.set_cons_succ]
      refine wpAnyK_take (i := 1) (oi := ?_) (v := ?_) ?_ (by kernel_rfl) (by kernel_rfl) (by kernel_rfl) (fun _ _ _ h => h) (by decide) ?_ HS.out (fun _ => trivial) ?_
      rotate_left 2
      · (simp only [List.getElem?_toArray, List.getElem?_cons_succ, List.getElem?_cons_zero]; rfl)
      · (first | exact Or.inr ⟨by rfl, rfl⟩ | (refine Or.inl ⟨by rfl, ?_⟩; intro W hSw; clear hSw; go_simp; try with_reducible rfl))
      try simp only [Act.put, List.setIfInBounds_toArray, List.set_cons_zero, List.set_cons_succ]
      refine wpAnyK_take (i := 2) (oi := ?_) (v := ?_) ?_ (by kernel_rfl) (by kernel_rfl) (by kernel_rfl) (fun _ _ _ h => h) (by decide) ?_ HS.out (fun _ => trivial) ?_
      rotate_left 2
      · (simp only [List.getElem?_toArray, List.getElem?_cons_succ, List.getElem?_cons_zero]; rfl)
      · (first | exact Or.inr ⟨by rfl, rfl⟩ | (refine Or.inl ⟨by rfl, ?_⟩; intro W hSw; have hk := (((HBW.out.cell (p := ⟨G, 38, none⟩) HGA.out.2.1).trans K38.out)); have hk2 := (hSw.cell (p := ⟨G, 38, none⟩) (Nat.lt_of_lt_of_le HGA.out.2.1 (Nat.le_trans HGA.out.2.2.2.1 HBW.out.size))).trans hk; clear hk; clear hSw; go_simp; try with_reducible rfl))
      try simp only [Act.put, List.setIfInBounds_toArray, List.set_cons_zero, List.set_cons_succ]
      refine wpAnyK_take (i := 3) (oi := ?_) (v := ?_) ?_ (by kernel_rfl) (by kernel_rfl) (by kernel_rfl) (fun _ _ _ h => h) (by decide) ?_ HS.out (fun _ => trivial) ?_
      rotate_left 2
      · (simp only [List.getElem?_toArray, List.getElem?_cons_succ, List.getElem?_cons_zero]; rfl)
      · (first | exact Or.inr ⟨by rfl, rfl⟩ | (refine Or.inl ⟨by rfl, ?_⟩; intro W hSw; clear hSw; go_simp; try with_reducible rfl))
      try simp only [Act.put, List.setIfInBounds_toArray, List.set_cons_zero, List.set_cons_succ]
      refine wpAnyK_take (i := 4) (oi := ?_) (v := ?_) ?_ (by kernel_rfl) (by kernel_rfl) (by kernel_rfl) (fun _ _ _ h => h) (by decide) ?_ HS.out (fun _ => trivial) ?_
      rotate_left 2
      · (simp only [List.getElem?_toArray, List.getElem?_cons_succ, List.getElem?_cons_zero]; rfl)
      · (first | exact Or.inr ⟨by rfl, rfl⟩ | (refine Or.inl ⟨by rfl, ?_⟩; intro W hSw; clear hSw; go_simp; try with_reducible rfl))
      try simp only [Act.put, List.setIfInBounds_toArray, List.set_cons_zero, List.set_cons_succ]
      refine wpAnyK_take (i := 5) (oi := ?_) (v := ?_) ?_ (by kernel_rfl) (by kernel_rfl) (by kernel_rfl) (fun _ _ _ h => h) (by decide) ?_ HS.out (fun _ => trivial) ?_
      rotate_left 2
      · (simp only [List.getElem?_toArray, List.getElem?_cons_succ, List.getElem?_cons_zero]; rfl)
      · (first | exact Or.inr ⟨by rfl, rfl⟩ | (refine Or.inl ⟨by rfl, ?_⟩; intro W hSw; have hk := (((HBW.out.cell (p := ⟨bs, off + 4, none⟩) HGA.out.1).trans KAT.out)); have hk2 := (hSw.cell (p := ⟨bs, off + 4, none⟩) (Nat.lt_of_lt_of_le HGA.out.1 (Nat.le_trans HGA.out.2.2.2.1 HBW.out.size))).trans hk; clear hk; clear hSw; go_simp; try with_reducible rfl))
      try simp only [Act.put, List.setIfInBounds_toArray, List.set_cons_zero, List.set_cons_succ]
      refine wpAnyK_take (i := 6) (oi := ?_) (v := ?_) ?_ (by kernel_rfl) (by kernel_rfl) (by kernel_rfl) (fun _ _ _ h => h) (by decide) ?_ HS.out (fun _ => trivial) ?_
      rotate_left 2
      · (simp only [List.getElem?_toArray, List.getElem?_cons_succ, List.getElem?_cons_zero]; rfl)
      · (first | exact Or.inr ⟨by rfl, rfl⟩ | (refine Or.inl ⟨by rfl, ?_⟩; intro W hSw; clear hSw; go_simp; try with_reducible rfl))
      try simp only [Act.put, List.setIfInBounds_toArray, List.set_cons_zero, List.set_cons_succ]
      refine wpAnyK_take (i := 7) (oi := ?_) (v := ?_) ?_ (by kernel_rfl) (by kernel_rfl) (by kernel_rfl) (fun _ _ _ h => h) (by decide) ?_ HS.out (fun _ => trivial) ?_
      rotate_left 2
      · (simp only [List.getElem?_toArray, List.getElem?_cons_succ, List.getElem?_cons_zero]; rfl)
      · (first | exact Or.inr ⟨by rfl, rfl⟩ | (refine Or.inl ⟨by rfl, ?_⟩; intro W hSw; clear hSw; go_simp; try with_reducible rfl))
      try simp only [Act.put, List.setIfInBounds_toArray, List.set_cons_zero, List.set_cons_succ]
      refine wpAnyK_one (i := 8) (o := ?_) (by kernel_rfl) ?_ (fun K hK => ?_)
      rotate_left 1
      · (simp only [List.getElem?_toArray, List.getElem?_cons_succ, List.getElem?_cons_zero]; rfl)
      go_simp
      go_at_call 9
      refine (HOV.out _ HS.out).mono ?_
      rintro e w6 ⟨g6, c6, rfl, ho, hb⟩
      have HS2 := Lib.hid (HS.out.trans (hb.mono HS.out.size))
      have HO6 := Lib.hid ho
      have HL6 := Lib.hid (Nat.le_trans HGA.out.2.2.2.2 (Nat.le_trans HGA.out.2.2.2.1 (Nat.le_trans HBW.out.size HS.out.size)))
      clear ho hb
      refine hK.out _ _ HS2.out (fun _ => trivial) ?_
      clear hK K
      try simp only [Act.put, List.setIfInBounds_toArray, List.set_cons_zero, List.set_cons_succ]
      refine wpAnyK_take (i := 9) (oi := ?_) (v := ?_) ?_ (by kernel_rfl) (by kernel_rfl) (by kernel_rfl) (fun _ _ _ h => h) (by decide) ?_ HS2.out (fun _ => trivial) ?_
      rotate_left 2
      · (simp only [List.getElem?_toArray, List.getElem?_cons_succ, List.getElem?_cons_zero]; rfl)
      · (first | exact Or.inr ⟨by rfl, rfl⟩ | (refine Or.inl ⟨by rfl, ?_⟩; intro W hSw; clear hSw; go_simp; try with_reducible rfl))
      try simp only [Act.put, List.setIfInBounds_toArray, List.set_cons_zero, List.set_cons_succ]
      refine wpAnyK_done (by kernel_rfl) ?_ _
      refine NoPanic.normal ?_
      go_wp2_with fail
      go_ret
      exact ⟨g6, c6, F, _, rfl, HO6.out.weaken HL6.out, HM.out, HSH.out.trans (SameH.over _ _ _ _ (.inr (by omega))), HB05.out.trans ((HBW.out.trans (HS2.out.mono (Nat.le_trans HGA.out.2.2.2.1 HBW.out.size))).mono HGA.out.2.2.2.2)⟩
theorem gen_one {b : Nat} {Re : Option ExpV} {Ri Rd : Option (List ImpV)} {Rr : Option (List Site)} {Rb : Option (List BRow)} {Rt : Option (Bool × Int × List Int)} {gi g N : Nat} {y : PeV} {u : World} (ht : ∀ j, j < 39 → (y.hd j).oneCell' = true) (hi : y.img = .slice (some ⟨gi, 0, none⟩) N N)
    (hE : ExpS b Re gi y.e0 y.e1 y.e2 u) (hI : ImpS b Ri gi y.im u) (hR : RowS1 relC 2 82 b Rr gi y.re u) (hT : TlsS b Rt gi y.t0 y.t1 y.t2 u) (hB : RowS1 bC 2 80 b Rb gi y.bo u) (hD : ImpS b Rd gi y.de u) : (peC y).all (·.oneCell') = true := by
  have one_i : ∀ {R : Option (List ImpV)} {v : Value}, ImpS b R gi v u → v.oneCell' = true := fun {R v} h => by
    cases R with
    | none => have h : v = _ := h; rw [h]; rfl
    | some l => obtain ⟨A, c, l, rfl, _⟩ := h; rfl
  refine peC_one y ht (by rw [hi]; rfl) ⟨?_, one_i hI, ?_, ?_, ?_, one_i hD⟩
  · cases Re with
    | none => obtain ⟨h1, h2, h3⟩ := hE; rw [h1, h2, h3]; exact ⟨rfl, rfl, rfl⟩
    | some x => obtain ⟨A, k, A', k', h1, h2, h3, _⟩ := hE; rw [h1, h2, h3]; exact ⟨rfl, rfl, rfl⟩
  · cases Rr with
    | none => have h : y.re = _ := hR; rw [h]; rfl
    | some l => obtain ⟨A, c, h, _⟩ := hR; rw [h]; rfl
  · cases Rt with
    | none => obtain ⟨h1, h2, h3⟩ := hT; rw [h1, h2, h3]; exact ⟨rfl, rfl, rfl⟩
    | some x => obtain ⟨A, k, h1, h2, h3, _⟩ := hT; rw [h1, h2, h3]; exact ⟨rfl, rfl, rfl⟩
  · cases Rb with
    | none => have h : y.bo = _ := hB; rw [h]; rfl
    | some l => obtain ⟨A, c, h, _⟩ := hB; rw [h]; rfl
set_option maxHeartbeats 4000000 in
theorem pelays_any (p : PIn) (w : World) (hp : p.Is w) (hl : p.Lens) : Calls Tryz.prog 7 #[.agg p.cells] w fun e u => e = .returned (.bool true) ∧ Below w.heap.size w u := by
  have hb0 : Below w.heap.size w (w.alloc (.cells p.cells 32)) := (Below.refl w.heap.size w).alloc (Nat.le_refl _) _
  have hz := heap_alloc_new w (.cells p.cells 32)
  obtain ⟨w1, hw1⟩ : ∃ q, w.alloc (.cells p.cells 32) = q := ⟨_, rfl⟩
  rw [hw1] at hb0 hz
  have HB0 := Lib.hid hb0
  have HZ := Lib.hid hz
  have HW := Lib.hid hw1
  have HPB := Lib.hid (fun W (hW : Below w.heap.size w W) => hp.below hW)
  have HLN := Lib.hid hl
  have HAW := Lib.hid (fun W => awake12_any W)
  have HLT := Lib.hid (lt_of_row' hz)
  clear hp hl hb0 hz hw1
  go_enter Tryz.func7, Tryz.ntmps7
  go_upto_region 1 with (fail)
  refine (congrArg _ HW.out).mpr ?_
  go_wp2_with (refine wpList_load_row rfl 32 _ rfl w.heap.size rfl 32 p.cells (0, 0) _ HZ.out rfl rfl (by kernel_rfl) ?_)
  refine (few_any p w1 (HPB.out _ HB0.out) HLN.out).mono ?_
  rintro e w2 ⟨rfl | ⟨rfl, hf⟩, hb⟩
  · have HB2 := Lib.hid (HB0.out.trans (hb.mono HB0.out.size))
    clear hb
    go_wp2_with fail
    refine (HAW.out w2).mono ?_
    rintro e w3 ⟨rfl, hb⟩
    have HB3 := Lib.hid (HB2.out.trans (hb.mono HB2.out.size))
    clear hb
    go_wp2_with fail
    go_ret
    exact ⟨rfl, HB3.out⟩
  have HB2 := Lib.hid (HB0.out.trans (hb.mono HB0.out.size))
  have HZ2 := Lib.hid ((hb.block w.heap.size HLT.out).trans HZ.out)
  have HFW := Lib.hid hf
  clear hb hf
  go_wp2_with (refine wpList_load_row rfl 32 _ rfl w.heap.size rfl 32 p.cells (0, 0) _ HZ2.out rfl rfl (by kernel_rfl) ?_)
  refine (made12w p w2 (HPB.out _ HB2.out) HLN.out HFW.out).mono ?_
  rintro e w3 ⟨g, c, F, f, rfl, ho, hm, hs, hb⟩
  have hp := hs.headP hm 8704 (by omega)
  have hE := hs.ok hm 8704 (by rw [at12]; exact Nat.le_refl _) (by omega) (by omega)
  have hN : (readS f (headP 8704 f)).size = (16384 : Nat) := by rw [hp, hs.size hm, rva12]; rfl
  have hH : (readS f (headP 8704 f)).headers = (1024 : Nat) := by rw [hp, hs.hdrs hm]; rfl
  obtain ⟨D, hD⟩ := dirs_nat 8704 f ho.by255
  obtain ⟨B, hB⟩ : ∃ q, (readS f (headP 8704 f)).base = q := ⟨_, rfl⟩
  obtain ⟨IM, hIM⟩ : ∃ q, imgF 16384 f 8704 1024 (sectsS f (headP 8704 f + 264) (headK 8704 f)) = q := ⟨_, rfl⟩
  have hpg := peparse_gen g 0 8704 c f w3 ho.rowB hE 16384 1024 hN hH IM hIM D hD B hB
  obtain ⟨hN2, hk⟩ := headK_any g 0 8704 c f w3 ho.rowB hE 16384 1024 hN hH
  rw [hIM, hB] at hk
  have HK := Lib.hid hk
  have HSZ := Lib.hid (show ∀ u cs, HeadG 8704 f u cs → cs[4]? = some (.int .i64 16384) from fun u cs hg => by obtain ⟨g, hg⟩ := hg; rw [hg.hv.c4, hN]; rfl)
  have HPG := Lib.hid hpg
  have HB3 := Lib.hid (HB2.out.trans (hb.mono HB2.out.size))
  clear hb hm hs hp hE hN hH hD hB hIM hpg hN2 hk ho
  go_wp2_with fail
  refine HPG.out.mono ?_
  rintro e w4 ⟨hb, hq⟩
  have HB34 := Lib.hid hb
  have HB4 := Lib.hid (HB3.out.trans (hb.mono HB3.out.size))
  clear hb HPG
  cases hq with
  | bad h =>
    generalize peE 16384 IM D B = E at h ⊢
    have e1 : (E != 0) = true := by simpa using h
    have e2 : ¬ E = 0 := h
    go_upto_region 5 with (refine wpList_store_row rfl 50 _ _ rfl w4.heap.size (peC peZ) rfl rfl 50 _ (heap_alloc_new _ _) (by rw [peC_size]; kernel_rfl) (by rw [peC_size]; rfl) peZ_one ?_)
    rw [zero_pe]
    have hz := setRow_heap (w4.alloc (.cells (peC peZ) 50)) w4.heap.size _ (peC peZ) _ _ (heap_alloc_new _ _)
    have hb5 : Below w4.heap.size w4 ((w4.alloc (.cells (peC peZ) 50)).setRow w4.heap.size (peC peZ)) := below_setRow ((Below.refl _ w4).alloc (Nat.le_refl _) _) (Nat.le_refl _) _
    generalize (w4.alloc (.cells (peC peZ) 50)).setRow w4.heap.size (peC peZ) = w5 at *
    have k39 : w5.cell? ⟨w4.heap.size, 39, none⟩ = some (.slice none 0 0) := (cell_of_row _ _ 39 _ _ _ hz).trans (peC_cell peZ (by omega))
    have HB5 := Lib.hid (HB4.out.trans (hb5.mono HB4.out.size))
    clear hz hb5 HB4 HB34
    generalize w4.heap.size = G at *
    go_wp2_with fail
    refine (HAW.out _).mono ?_
    rintro e w6 ⟨rfl, hb⟩
    have HB6 := Lib.hid (HB5.out.trans (hb.mono HB5.out.size))
    clear hb
    go_wp2_with fail
    go_ret
    exact ⟨rfl, HB6.out⟩
  | good h0 y cs gi W0 hk hh hi ho hW lE lI lR lT lB lD =>
    obtain ⟨wb, hg, hz, hkk⟩ := hk
    have hone : (peC y).all (·.oneCell') = true := by
      refine gen_one (g := 0) (fun j hj => ?_) hi lE.now lI.now lR.now lT.now lB.now lD.now
      have h1 := (HK.out.sized _ _ hg).2
      exact Array.all_eq_true_iff_forall_mem.1 h1 (y.hd j) (Array.mem_of_getElem? (hh j hj))
    have hs4 : y.hd 4 = .int .i64 16384 := by
      have h1 := hh 4 (by omega)
      rw [HSZ.out _ _ hg] at h1
      exact (Option.some.inj h1).symm
    have HON := Lib.hid hone
    have HO4 := Lib.hid ho
    have HI := Lib.hid hi
    have HS4 := Lib.hid hs4
    clear hg hz hkk lE lI lR lT lB lD hW hh hone hs4 hi ho h0
    simp only []
    go_upto_region 5 with (refine wpList_store_row rfl 50 _ _ rfl w4.heap.size (peC y) rfl rfl 50 _ (heap_alloc_new _ _) (by rw [peC_size]; kernel_rfl) (by rw [peC_size]; rfl) HON.out ?_)
    rw [zero_pe]
    have hz5 := setRow_heap (w4.alloc (.cells (peC peZ) 50)) w4.heap.size _ (peC y) _ _ (heap_alloc_new _ _)
    have hb5 : Below w4.heap.size w4 ((w4.alloc (.cells (peC peZ) 50)).setRow w4.heap.size (peC y)) := below_setRow ((Below.refl _ w4).alloc (Nat.le_refl _) _) (Nat.le_refl _) _
    generalize (w4.alloc (.cells (peC peZ) 50)).setRow w4.heap.size (peC y) = w5 at *
    obtain ⟨P1, hP1⟩ : ∃ q, w4.heap.size = q := ⟨_, rfl⟩
    rw [hP1] at hz5 ⊢
    have HZ5 := Lib.hid hz5
    have HB45 := Lib.hid hb5
    have HO5 := Lib.hid (HO4.out.below HB45.out)
    have HB35 := Lib.hid (HB34.out.trans (HB45.out.mono HB34.out.size))
    have HB5 := Lib.hid (HB4.out.trans (HB45.out.mono HB4.out.size))
    clear hz5 hb5 HO4 HB34 HB4 HB45 hP1
    go_wp2_with fail
    refine (HK.out.parse w5 HB35.out).mono ?_
    rintro e w6 ⟨⟨cs2, rfl, hg⟩, hb⟩
    obtain ⟨hcz, hone⟩ := HK.out.sized _ _ hg
    have HCZ := Lib.hid hcz
    have HON2 := Lib.hid hone
    have HC4 := Lib.hid (HSZ.out _ _ hg)
    have HG6 := Lib.hid hg
    have HZ6 := Lib.hid ((hb.block P1 (lt_of_row' HZ5.out)).trans HZ5.out)
    have HO6 := Lib.hid (HO5.out.below hb)
    have HB36 := Lib.hid (HB35.out.trans (hb.mono HB35.out.size))
    have HB6 := Lib.hid (HB5.out.trans (hb.mono HB5.out.size))
    clear hb hg hone hcz HZ5 HO5 HB35 HB5
    go_upto_region 8 with (refine wpList_store_row rfl 41 _ _ rfl w6.heap.size cs2 rfl rfl 41 _ (heap_alloc_new _ _) (by rw [HCZ.out]; kernel_rfl) (by rw [HCZ.out]; rfl) HON2.out ?_)
    rw [zero_head]
    have hz7 := setRow_heap (w6.alloc (.cells (headC 0 0 0 0 0 0) 41)) w6.heap.size _ cs2 _ _ (heap_alloc_new _ _)
    have hb7 : Below w6.heap.size w6 ((w6.alloc (.cells (headC 0 0 0 0 0 0) 41)).setRow w6.heap.size cs2) := below_setRow ((Below.refl _ w6).alloc (Nat.le_refl _) _) (Nat.le_refl _) _
    generalize (w6.alloc (.cells (headC 0 0 0 0 0 0) 41)).setRow w6.heap.size cs2 = w7 at *
    obtain ⟨P2, hP2⟩ : ∃ q, w6.heap.size = q := ⟨_, rfl⟩
    rw [hP2] at hz7 ⊢
    have HZP := Lib.hid ((hb7.block P1 (lt_of_row' HZ6.out)).trans HZ6.out)
    have HZH := Lib.hid hz7
    have HO7 := Lib.hid (HO6.out.below hb7)
    have HG7 := Lib.hid (HK.out.stays _ _ _ HG6.out hb7)
    have HB37 := Lib.hid (HB36.out.trans (hb7.mono HB36.out.size))
    have HB7 := Lib.hid (HB6.out.trans (hb7.mono HB6.out.size))
    clear hz7 hb7 HZ6 HO6 HG6 HB36 HB6 hP2
    obtain ⟨S, hS⟩ : ∃ q, strF IM 0 16384 = q := ⟨_, rfl⟩
    have HCV := Lib.hid (fun W (hW : Below w7.heap.size w7 W) => (show (convert 25 9 (.slice (some ⟨gi, 0, none⟩) 16384 16384)).run Tryz.prog W = .ok (.string S) W from by rw [← hS]; exact run_str (cap := 16384) (HO7.out.below hW).row))
    have K39 := Lib.hid (fun W (hW : Below w7.heap.size w7 W) => (show W.cell? ⟨P1, 39, none⟩ = some (.slice (some ⟨gi, 0, none⟩) 16384 16384) from by rw [cell_of_row' ((hW.block P1 (lt_of_row' HZP.out)).trans HZP.out), peC_cell y (by omega)]; exact congrArg some HI.out))
    have K4 := Lib.hid (fun W (hW : Below w7.heap.size w7 W) => (show W.cell? ⟨P1, 4, none⟩ = some (.int .i64 16384) from by rw [cell_of_row' ((hW.block P1 (lt_of_row' HZP.out)).trans HZP.out), peC_cell y (by omega), peF_hd y (by omega), HS4.out]))
    have H4 := Lib.hid (fun W (hW : Below w7.heap.size w7 W) => (show W.cell? ⟨P2, 4, none⟩ = some (.int .i64 16384) from by rw [cell_of_row' ((hW.block P2 (lt_of_row' HZH.out)).trans HZH.out)]; exact HC4.out))
    have HRW := Lib.hid (fun W (hW : Below w7.heap.size w7 W) => (hW.block P2 (lt_of_row' HZH.out)).trans HZH.out)
    have hsz : (Tryz.prog.info? 41).map (·.size) = some cs2.size := by rw [HCZ.out]; kernel_rfl
    have HSS := Lib.hid hS
    clear hS HZP HZH HC4 HI HS4 HON HON2
    have HS := Lib.hid (show Below w7.heap.size w7 w7.drew from (Below.refl _ _).drew)
    refine wp_region_noPanic ?_
    refine wp_region_K (fun W => Below w7.heap.size w7 W) (fun _ => True) 99 (by kernel_rfl) ?_
    refine wpAnyK_take (i := 0) (oi := ?_) (v := ?_) ?_ (by kernel_rfl) (by kernel_rfl) (by kernel_rfl) (fun _ _ _ h => h) (by decide) ?_ HS.out (fun _ => trivial) ?_
    rotate_left 2
    · (simp only [List.getElem?_toArray, List.getElem?_cons_succ, List.getElem?_cons_zero]; rfl)
    · (first | exact Or.inr ⟨by rfl, rfl⟩ | (refine Or.inl ⟨by rfl, ?_⟩; intro W hSw; clear hSw; go_simp; try with_reducible rfl))
    try simp only [Act.put, List.setIfInBounds_toArray, List.set_cons_zero, List.set_cons_succ]
    refine wpAnyK_take (i := 1) (oi := ?_) (v := ?_) ?_ (by kernel_rfl) (by kernel_rfl) (by kernel_rfl) (fun _ _ _ h => h) (by decide) ?_ HS.out (fun _ => trivial) ?_
    rotate_left 2
    · (simp only [List.getElem?_toArray, List.getElem?_cons_succ, List.getElem?_cons_zero]; rfl)
    · (first | exact Or.inr ⟨by rfl, rfl⟩ | (refine Or.inl ⟨by rfl, ?_⟩; intro W hSw; clear hSw; go_simp; try with_reducible rfl))
    try simp only [Act.put, List.setIfInBounds_toArray, List.set_cons_zero, List.set_cons_succ]
    refine wpAnyK_take (i := 2) (oi := ?_) (v := ?_) ?_ (by kernel_rfl) (by kernel_rfl) (by kernel_rfl) (fun _ _ _ h => h) (by decide) ?_ HS.out (fun _ => trivial) ?_
    rotate_left 2
    · (simp only [List.getElem?_toArray, List.getElem?_cons_succ, List.getElem?_cons_zero]; rfl)
    · (first | exact Or.inr ⟨by rfl, rfl⟩ | (refine Or.inl ⟨by rfl, ?_⟩; intro W hSw; clear hSw; go_simp; try with_reducible rfl))
    try simp only [Act.put, List.setIfInBounds_toArray, List.set_cons_zero, List.set_cons_succ]
    refine wpAnyK_take (i := 3) (oi := ?_) (v := ?_) ?_ (by kernel_rfl) (by kernel_rfl) (by kernel_rfl) (fun _ _ _ h => h) (by decide) ?_ HS.out (fun _ => trivial) ?_
    rotate_left 2
    · (simp only [List.getElem?_toArray, List.getElem?_cons_succ, List.getElem?_cons_zero]; rfl)
    · (first | exact Or.inr ⟨by rfl, rfl⟩ | (refine Or.inl ⟨by rfl, ?_⟩; intro W hSw; clear hSw; go_simp; try with_reducible rfl))
    try simp only [Act.put, List.setIfInBounds_toArray, List.set_cons_zero, List.set_cons_succ]
    refine wpAnyK_take (i := 4) (oi := ?_) (v := ?_) ?_ (by kernel_rfl) (by kernel_rfl) (by kernel_rfl) (fun _ _ _ h => h) (by decide) ?_ HS.out (fun _ => trivial) ?_
    rotate_left 2
    · (simp only [List.getElem?_toArray, List.getElem?_cons_succ, List.getElem?_cons_zero]; rfl)
    · (first | exact Or.inr ⟨by rfl, rfl⟩ | (refine Or.inl ⟨by rfl, ?_⟩; intro W hSw; have hk := K39.out W hSw; clear hSw; go_simp; try with_reducible rfl))
    try simp only [Act.put, List.setIfInBounds_toArray, List.set_cons_zero, List.set_cons_succ]
    refine wpAnyK_take (i := 5) (oi := ?_) (v := ?_) ?_ (by kernel_rfl) (by kernel_rfl) (by kernel_rfl) (fun _ _ _ h => h) (by decide) ?_ HS.out (fun _ => trivial) ?_
    rotate_left 2
    · (simp only [List.getElem?_toArray, List.getElem?_cons_succ, List.getElem?_cons_zero]; rfl)
    · (first | exact Or.inr ⟨by rfl, rfl⟩ | (refine Or.inl ⟨by rfl, ?_⟩; intro W hSw; have hk := HCV.out W hSw; clear hSw; go_simp; try with_reducible rfl))
    try simp only [Act.put, List.setIfInBounds_toArray, List.set_cons_zero, List.set_cons_succ]
    refine wpAnyK_take (i := 6) (oi := ?_) (v := ?_) ?_ (by kernel_rfl) (by kernel_rfl) (by kernel_rfl) (fun _ _ _ h => h) (by decide) ?_ HS.out (fun _ => trivial) ?_
    rotate_left 2
    · (simp only [List.getElem?_toArray, List.getElem?_cons_succ, List.getElem?_cons_zero]; rfl)
    · refine yieldsIf_load_row_g 41 (.tmp 6) P2 41 cs2 (0, 0) ?_ ?_ ?_ (fun W hW => HRW.out W hW) ?_ hsz
      · rfl
      · rfl
      · rfl
      · kernel_rfl
    try simp only [Act.put, List.setIfInBounds_toArray, List.set_cons_zero, List.set_cons_succ]
    refine wpAnyK_take (i := 7) (oi := ?_) (v := ?_) ?_ (by kernel_rfl) (by kernel_rfl) (by kernel_rfl) (fun _ _ _ h => h) (by decide) ?_ HS.out (fun _ => trivial) ?_
    rotate_left 2
    · (simp only [List.getElem?_toArray, List.getElem?_cons_succ, List.getElem?_cons_zero]; rfl)
    · (first | exact Or.inr ⟨by rfl, rfl⟩ | (refine Or.inl ⟨by rfl, ?_⟩; intro W hSw; clear hSw; go_simp; try with_reducible rfl))
    try simp only [Act.put, List.setIfInBounds_toArray, List.set_cons_zero, List.set_cons_succ]
    refine wpAnyK_one (i := 8) (o := ?_) (by kernel_rfl) ?_ (fun K hK => ?_)
    rotate_left 1
    · (simp only [List.getElem?_toArray, List.getElem?_cons_succ, List.getElem?_cons_zero]; rfl)
    go_simp
    go_at_call 24
    refine (HK.out.lay _ cs2 (HB37.out.trans (HS.out.mono HB37.out.size)) (HK.out.stays _ _ _ HG7.out HS.out)).mono ?_
    rintro e w9 ⟨gi2, rfl, ho9, hb9⟩
    have HS2 := Lib.hid (HS.out.trans (hb9.mono HS.out.size))
    have hcv9 : (convert 25 9 (.slice (some ⟨gi2, 0, none⟩) 16384 16384)).run Tryz.prog w9 = .ok (.string S) w9 := by rw [← HSS.out]; exact run_str (cap := 16384) ho9.row
    clear hb9 ho9
    refine hK.out _ _ HS2.out (fun _ => trivial) ?_
    clear hK K
    try simp only [Act.put, List.setIfInBounds_toArray, List.set_cons_zero, List.set_cons_succ]
    refine wpAnyK_one (i := 9) (o := ?_) (by kernel_rfl) ?_ (fun K hK => ?_)
    rotate_left 1
    · (simp only [List.getElem?_toArray, List.getElem?_cons_succ, List.getElem?_cons_zero]; rfl)
    go_simp
    refine hK.out _ _ HS2.out (fun _ => trivial) ?_
    clear hK K
    try simp only [Act.put, List.setIfInBounds_toArray, List.set_cons_zero, List.set_cons_succ]
    clear hcv9
    refine wpAnyK_take (i := 10) (oi := ?_) (v := ?_) ?_ (by kernel_rfl) (by kernel_rfl) (by kernel_rfl) (fun _ _ _ h => h) (by decide) ?_ HS2.out (fun _ => trivial) ?_
    rotate_left 2
    · (simp only [List.getElem?_toArray, List.getElem?_cons_succ, List.getElem?_cons_zero]; rfl)
    · (first | exact Or.inr ⟨by rfl, rfl⟩ | (refine Or.inl ⟨by rfl, ?_⟩; intro W hSw; clear hSw; go_simp; try with_reducible rfl))
    try simp only [Act.put, List.setIfInBounds_toArray, List.set_cons_zero, List.set_cons_succ]
    refine wpAnyK_take (i := 11) (oi := ?_) (v := ?_) ?_ (by kernel_rfl) (by kernel_rfl) (by kernel_rfl) (fun _ _ _ h => h) (by decide) ?_ HS2.out (fun _ => trivial) ?_
    rotate_left 2
    · (simp only [List.getElem?_toArray, List.getElem?_cons_succ, List.getElem?_cons_zero]; rfl)
    · (first | exact Or.inr ⟨by rfl, rfl⟩ | (refine Or.inl ⟨by rfl, ?_⟩; intro W hSw; clear hSw; go_simp; try with_reducible rfl))
    try simp only [Act.put, List.setIfInBounds_toArray, List.set_cons_zero, List.set_cons_succ]
    refine wpAnyK_take (i := 12) (oi := ?_) (v := ?_) ?_ (by kernel_rfl) (by kernel_rfl) (by kernel_rfl) (fun _ _ _ h => h) (by decide) ?_ HS2.out (fun _ => trivial) ?_
    rotate_left 2
    · (simp only [List.getElem?_toArray, List.getElem?_cons_succ, List.getElem?_cons_zero]; rfl)
    · (first | exact Or.inr ⟨by rfl, rfl⟩ | (refine Or.inl ⟨by rfl, ?_⟩; intro W hSw; clear hSw; go_simp; try with_reducible rfl))
    try simp only [Act.put, List.setIfInBounds_toArray, List.set_cons_zero, List.set_cons_succ]
    refine wpAnyK_take (i := 13) (oi := ?_) (v := ?_) ?_ (by kernel_rfl) (by kernel_rfl) (by kernel_rfl) (fun _ _ _ h => h) (by decide) ?_ HS2.out (fun _ => trivial) ?_
    rotate_left 2
    · (simp only [List.getElem?_toArray, List.getElem?_cons_succ, List.getElem?_cons_zero]; rfl)
    · (first | exact Or.inr ⟨by rfl, rfl⟩ | (refine Or.inl ⟨by rfl, ?_⟩; intro W hSw; clear hSw; go_simp; try with_reducible rfl))
    try simp only [Act.put, List.setIfInBounds_toArray, List.set_cons_zero, List.set_cons_succ]
    refine wpAnyK_take (i := 14) (oi := ?_) (v := ?_) ?_ (by kernel_rfl) (by kernel_rfl) (by kernel_rfl) (fun _ _ _ h => h) (by decide) ?_ HS2.out (fun _ => trivial) ?_
    rotate_left 2
    · (simp only [List.getElem?_toArray, List.getElem?_cons_succ, List.getElem?_cons_zero]; rfl)
    · (first | exact Or.inr ⟨by rfl, rfl⟩ | (refine Or.inl ⟨by rfl, ?_⟩; intro W hSw; have hk := K39.out W hSw; clear hSw; go_simp; try with_reducible rfl))
    try simp only [Act.put, List.setIfInBounds_toArray, List.set_cons_zero, List.set_cons_succ]
    refine wpAnyK_take (i := 15) (oi := ?_) (v := ?_) ?_ (by kernel_rfl) (by kernel_rfl) (by kernel_rfl) (fun _ _ _ h => h) (by decide) ?_ HS2.out (fun _ => trivial) ?_
    rotate_left 2
    · (simp only [List.getElem?_toArray, List.getElem?_cons_succ, List.getElem?_cons_zero]; rfl)
    · (first | exact Or.inr ⟨by rfl, rfl⟩ | (refine Or.inl ⟨by rfl, ?_⟩; intro W hSw; clear hSw; go_simp; try with_reducible rfl))
    try simp only [Act.put, List.setIfInBounds_toArray, List.set_cons_zero, List.set_cons_succ]
    refine wpAnyK_take (i := 16) (oi := ?_) (v := ?_) ?_ (by kernel_rfl) (by kernel_rfl) (by kernel_rfl) (fun _ _ _ h => h) (by decide) ?_ HS2.out (fun _ => trivial) ?_
    rotate_left 2
    · (simp only [List.getElem?_toArray, List.getElem?_cons_succ, List.getElem?_cons_zero]; rfl)
    · (first | exact Or.inr ⟨by rfl, rfl⟩ | (refine Or.inl ⟨by rfl, ?_⟩; intro W hSw; clear hSw; go_simp; try with_reducible rfl))
    try simp only [Act.put, List.setIfInBounds_toArray, List.set_cons_zero, List.set_cons_succ]
    refine wpAnyK_take (i := 17) (oi := ?_) (v := ?_) ?_ (by kernel_rfl) (by kernel_rfl) (by kernel_rfl) (fun _ _ _ h => h) (by decide) ?_ HS2.out (fun _ => trivial) ?_
    rotate_left 2
    · (simp only [List.getElem?_toArray, List.getElem?_cons_succ, List.getElem?_cons_zero]; rfl)
    · (first | exact Or.inr ⟨by rfl, rfl⟩ | (refine Or.inl ⟨by rfl, ?_⟩; intro W hSw; have hk := H4.out W hSw; clear hSw; go_simp; try with_reducible rfl))
    try simp only [Act.put, List.setIfInBounds_toArray, List.set_cons_zero, List.set_cons_succ]
    refine wpAnyK_take (i := 18) (oi := ?_) (v := ?_) ?_ (by kernel_rfl) (by kernel_rfl) (by kernel_rfl) (fun _ _ _ h => h) (by decide) ?_ HS2.out (fun _ => trivial) ?_
    rotate_left 2
    · (simp only [List.getElem?_toArray, List.getElem?_cons_succ, List.getElem?_cons_zero]; rfl)
    · (first | exact Or.inr ⟨by rfl, rfl⟩ | (refine Or.inl ⟨by rfl, ?_⟩; intro W hSw; clear hSw; go_simp; try with_reducible rfl))
    try simp only [Act.put, List.setIfInBounds_toArray, List.set_cons_zero, List.set_cons_succ]
    refine wpAnyK_take (i := 19) (oi := ?_) (v := ?_) ?_ (by kernel_rfl) (by kernel_rfl) (by kernel_rfl) (fun _ _ _ h => h) (by decide) ?_ HS2.out (fun _ => trivial) ?_
    rotate_left 2
    · (simp only [List.getElem?_toArray, List.getElem?_cons_succ, List.getElem?_cons_zero]; rfl)
    · (first | exact Or.inr ⟨by rfl, rfl⟩ | (refine Or.inl ⟨by rfl, ?_⟩; intro W hSw; clear hSw; go_simp; try with_reducible rfl))
    try simp only [Act.put, List.setIfInBounds_toArray, List.set_cons_zero, List.set_cons_succ]
    refine wpAnyK_take (i := 20) (oi := ?_) (v := ?_) ?_ (by kernel_rfl) (by kernel_rfl) (by kernel_rfl) (fun _ _ _ h => h) (by decide) ?_ HS2.out (fun _ => trivial) ?_
    rotate_left 2
    · (simp only [List.getElem?_toArray, List.getElem?_cons_succ, List.getElem?_cons_zero]; rfl)
    · (first | exact Or.inr ⟨by rfl, rfl⟩ | (refine Or.inl ⟨by rfl, ?_⟩; intro W hSw; clear hSw; go_simp; try with_reducible rfl))
    try simp only [Act.put, List.setIfInBounds_toArray, List.set_cons_zero, List.set_cons_succ]
    refine wpAnyK_take (i := 21) (oi := ?_) (v := ?_) ?_ (by kernel_rfl) (by kernel_rfl) (by kernel_rfl) (fun _ _ _ h => h) (by decide) ?_ HS2.out (fun _ => trivial) ?_
    rotate_left 2
    · (simp only [List.getElem?_toArray, List.getElem?_cons_succ, List.getElem?_cons_zero]; rfl)
    · (first | exact Or.inr ⟨by rfl, rfl⟩ | (refine Or.inl ⟨by rfl, ?_⟩; intro W hSw; clear hSw; go_simp; try with_reducible rfl))
    try simp only [Act.put, List.setIfInBounds_toArray, List.set_cons_zero, List.set_cons_succ]
    refine wpAnyK_take (i := 22) (oi := ?_) (v := ?_) ?_ (by kernel_rfl) (by kernel_rfl) (by kernel_rfl) (fun _ _ _ h => h) (by decide) ?_ HS2.out (fun _ => trivial) ?_
    rotate_left 2
    · (simp only [List.getElem?_toArray, List.getElem?_cons_succ, List.getElem?_cons_zero]; rfl)
    · (first | exact Or.inr ⟨by rfl, rfl⟩ | (refine Or.inl ⟨by rfl, ?_⟩; intro W hSw; clear hSw; go_simp; try with_reducible rfl))
    try simp only [Act.put, List.setIfInBounds_toArray, List.set_cons_zero, List.set_cons_succ]
    refine wpAnyK_take (i := 23) (oi := ?_) (v := ?_) ?_ (by kernel_rfl) (by kernel_rfl) (by kernel_rfl) (fun _ _ _ h => h) (by decide) ?_ HS2.out (fun _ => trivial) ?_
    rotate_left 2
    · (simp only [List.getElem?_toArray, List.getElem?_cons_succ, List.getElem?_cons_zero]; rfl)
    · (first | exact Or.inr ⟨by rfl, rfl⟩ | (refine Or.inl ⟨by rfl, ?_⟩; intro W hSw; have hk := K4.out W hSw; clear hSw; go_simp; try with_reducible rfl))
    try simp only [Act.put, List.setIfInBounds_toArray, List.set_cons_zero, List.set_cons_succ]
    refine wpAnyK_take (i := 24) (oi := ?_) (v := ?_) ?_ (by kernel_rfl) (by kernel_rfl) (by kernel_rfl) (fun _ _ _ h => h) (by decide) ?_ HS2.out (fun _ => trivial) ?_
    rotate_left 2
    · (simp only [List.getElem?_toArray, List.getElem?_cons_succ, List.getElem?_cons_zero]; rfl)
    · (first | exact Or.inr ⟨by rfl, rfl⟩ | (refine Or.inl ⟨by rfl, ?_⟩; intro W hSw; clear hSw; go_simp; try with_reducible rfl))
    try simp only [Act.put, List.setIfInBounds_toArray, List.set_cons_zero, List.set_cons_succ]
    refine wpAnyK_take (i := 25) (oi := ?_) (v := ?_) ?_ (by kernel_rfl) (by kernel_rfl) (by kernel_rfl) (fun _ _ _ h => h) (by decide) ?_ HS2.out (fun _ => trivial) ?_
    rotate_left 2
    · (simp only [List.getElem?_toArray, List.getElem?_cons_succ, List.getElem?_cons_zero]; rfl)
    · (first | exact Or.inr ⟨by rfl, rfl⟩ | (refine Or.inl ⟨by rfl, ?_⟩; intro W hSw; have hk := H4.out W hSw; clear hSw; go_simp; try with_reducible rfl))
    try simp only [Act.put, List.setIfInBounds_toArray, List.set_cons_zero, List.set_cons_succ]
    refine wpAnyK_take (i := 26) (oi := ?_) (v := ?_) ?_ (by kernel_rfl) (by kernel_rfl) (by kernel_rfl) (fun _ _ _ h => h) (by decide) ?_ HS2.out (fun _ => trivial) ?_
    rotate_left 2
    · (simp only [List.getElem?_toArray, List.getElem?_cons_succ, List.getElem?_cons_zero]; rfl)
    · (first | exact Or.inr ⟨by rfl, rfl⟩ | (refine Or.inl ⟨by rfl, ?_⟩; intro W hSw; clear hSw; go_simp; try with_reducible rfl))
    try simp only [Act.put, List.setIfInBounds_toArray, List.set_cons_zero, List.set_cons_succ]
    refine wpAnyK_take (i := 27) (oi := ?_) (v := ?_) ?_ (by kernel_rfl) (by kernel_rfl) (by kernel_rfl) (fun _ _ _ h => h) (by decide) ?_ HS2.out (fun _ => trivial) ?_
    rotate_left 2
    · (simp only [List.getElem?_toArray, List.getElem?_cons_succ, List.getElem?_cons_zero]; rfl)
    · (first | exact Or.inr ⟨by rfl, rfl⟩ | (refine Or.inl ⟨by rfl, ?_⟩; intro W hSw; clear hSw; go_simp; try with_reducible rfl))
    try simp only [Act.put, List.setIfInBounds_toArray, List.set_cons_zero, List.set_cons_succ]
    refine wpAnyK_take (i := 28) (oi := ?_) (v := ?_) ?_ (by kernel_rfl) (by kernel_rfl) (by kernel_rfl) (fun _ _ _ h => h) (by decide) ?_ HS2.out (fun _ => trivial) ?_
    rotate_left 2
    · (simp only [List.getElem?_toArray, List.getElem?_cons_succ, List.getElem?_cons_zero]; rfl)
    · (first | exact Or.inr ⟨by rfl, rfl⟩ | (refine Or.inl ⟨by rfl, ?_⟩; intro W hSw; clear hSw; go_simp; try with_reducible rfl))
    try simp only [Act.put, List.setIfInBounds_toArray, List.set_cons_zero, List.set_cons_succ]
    refine wpAnyK_one (i := 29) (o := ?_) (by kernel_rfl) ?_ (fun K hK => ?_)
    rotate_left 1
    · (simp only [List.getElem?_toArray, List.getElem?_cons_succ, List.getElem?_cons_zero]; rfl)
    go_simp
    go_at_call 12
    refine (HAW.out _).mono ?_
    rintro e w10 ⟨rfl, hb10⟩
    have HS3 := Lib.hid (HS2.out.trans (hb10.mono HS2.out.size))
    clear hb10
    refine hK.out _ _ HS3.out (fun _ => trivial) ?_
    clear hK K
    try simp only [Act.put, List.setIfInBounds_toArray, List.set_cons_zero, List.set_cons_succ]
    refine wpAnyK_take (i := 30) (oi := ?_) (v := ?_) ?_ (by kernel_rfl) (by kernel_rfl) (by kernel_rfl) (fun _ _ _ h => h) (by decide) ?_ HS3.out (fun _ => trivial) ?_
    rotate_left 2
    · (simp only [List.getElem?_toArray, List.getElem?_cons_succ, List.getElem?_cons_zero]; rfl)
    · (first | exact Or.inr ⟨by rfl, rfl⟩ | (refine Or.inl ⟨by rfl, ?_⟩; intro W hSw; clear hSw; go_simp; try with_reducible rfl))
    try simp only [Act.put, List.setIfInBounds_toArray, List.set_cons_zero, List.set_cons_succ]
    refine wpAnyK_take (i := 31) (oi := ?_) (v := ?_) ?_ (by kernel_rfl) (by kernel_rfl) (by kernel_rfl) (fun _ _ _ h => h) (by decide) ?_ HS3.out (fun _ => trivial) ?_
    rotate_left 2
    · (simp only [List.getElem?_toArray, List.getElem?_cons_succ, List.getElem?_cons_zero]; rfl)
    · (first | exact Or.inr ⟨by rfl, rfl⟩ | (refine Or.inl ⟨by rfl, ?_⟩; intro W hSw; clear hSw; go_simp; try with_reducible rfl))
    try simp only [Act.put, List.setIfInBounds_toArray, List.set_cons_zero, List.set_cons_succ]
    refine wpAnyK_done (by kernel_rfl) ?_ _
    refine NoPanic.normal ?_
    go_wp2_with fail
    go_ret
    exact ⟨rfl, HB7.out.trans (HS3.out.mono HB7.out.size)⟩
end Go.Proofs.YtplgdpjbkdagfaaGreat
