import Derived.Test.YtplgdpjbkdagfaaGreatZRegK
import Derived.Test.YtplgdpjbkdagfaaGreatZExpM
import Derived.Test.YtplgdpjbkdagfaaGreatZHdrD
import Derived.Test.YtplgdpjbkdagfaaGreatZAwake1
import Derived.Deep.AppendSrc
import Derived.Laws.CopyOwn
namespace Go.Proofs.YtplgdpjbkdagfaaGreat
set_option maxRecDepth 100000
open Go.ChangeShapes Go.WideShapes Go.ChangeAt Go.RowKit
set_option linter.unusedVariables false
set_option linter.unusedSimpArgs false
section
variable {α : Type} {C : α → List Value} {sz : Nat}
theorem wpList_makeT {P : Program} {w : World} {ops : Array Oper} {rest : List Oper} {o : Oper} {a : Act} {Q : Exit → Act → World → Prop} (hgd : o.guard = none) (l c : Operand) (t : TypeId) (ho : o.op = .makeSlice t l c)
    (base : Nat) (e : TypeId) (z : Value) (bytes : Nat) (ht : P.underlying t = some (.slice e)) (hinfo : (P.info? e).map (fun i => (i.zero, i.size, i.bytes)) = some (some z, sz, bytes))
    (kl kc : IntKind) (n : Nat) (hl : a.eval l = .int kl 0) (hc : a.eval c = .int kc n) (hb : bytes * n ≤ 281474976710656) (h63 : n ≤ maxLen) (hbase : base ≤ w.heap.size)
    (hK : ∀ w', OwnT C sz w' base e (.slice (some ⟨w.heap.size, 0, none⟩) 0 n) [] → Below w.heap.size w w' → wpList P ops Q rest (a.put o.dst (.slice (some ⟨w.heap.size, 0, none⟩) 0 n)) w') :
    wpList P ops Q (o :: rest) a w := by
  obtain ⟨i0, hi, hz0, hz1, hz2⟩ := info_parts hinfo
  obtain ⟨w', hr, hown, hg⟩ := run_make_own (P := P) w base t e i0 z sz ht hi hz0 hz1 kl kc n (by rw [hz2]; exact hb) h63 hbase
  refine wpList_plain hgd fun K hK' => ?_
  unfold Oper.wp execOp
  simp only [ho, hl, hc, Sem.run_bind, hr, Sem.run_pure, Result.andThen_ok]
  exact hK' _ _ (hK w' hown ⟨hg.os, hg.tape, hg.output, hg.size, fun k hk => hg.block k hk (by simp)⟩)
end
def gC (x : FnV) : List Value := [.int .i64 x.1, .string (txt x.2)]
theorem gC_len (x : FnV) : (gC x).length = 2 := rfl
theorem gC_one (x : FnV) : ∀ u ∈ gC x, u.oneCell' = true := by
  intro u hu
  simp [gC] at hu
  rcases hu with rfl | rfl <;> rfl
theorem infoFunc : (Tryz.prog.info? 74).map (fun i => (i.zero, i.size, i.bytes)) = some (some (.agg #[.int .i64 0, .string ByteArray.empty]), 2, 24) := by kernel_rfl
def funcsL (b : List Nat) (rva size at' : Nat) : Nat → Nat → List FnV → Option (List FnV)
  | 0, _, acc => some acc
  | k + 1, i, acc => match readFn b rva size (numL (b.drop (at' + 4 * i)) 4) with
    | none => none
    | some f => funcsL b rva size at' k (i + 1) (acc ++ [f])
def FuncsQ (w w' : World) (r : Option (List FnV)) (e : Ending) : Prop := match r with
  | none => e = .returned (.tuple #[.slice none 0 0, .bool false])
  | some l => ∃ A cap, e = .returned (.tuple #[.slice A l.length cap, .bool true]) ∧ OwnT gC 2 w' w.heap.size 74 (.slice A l.length cap) l
theorem funcCells (x : Nat) (t : List Nat) (w : World) : ∀ j u, (gC (x, t))[j]? = some u → (w.alloc (.cells #[.int .i64 x, .string (txt t)] 74)).cell? ⟨w.heap.size, j, none⟩ = some u := by
  intro j u hu
  rcases j with _ | _ | j
  · simp [gC] at hu; subst hu; simp [go_sem]
  · simp [gC] at hu; subst hu; simp [go_sem]
  · simp [gC] at hu
set_option maxRecDepth 100000 in
set_option maxHeartbeats 4000000 in
theorem readFuncs_any (A : Option Addr) (cap : Nat) (bs : List Nat) (rva size b0 b1 b2 b3 b4 b5 : Nat) (w : World) (hb : Lb bs) (hl : bs.length ≤ cap) (hc : cap ≤ 9223372036854775807) (hlen : bs.length ≤ 1099511627776) (hs : SlB w A bs.length (lF bs)) (hr : rva ≤ 9223372036854775807) (hz : size ≤ 9223372036854775807)
    (hn : b1 ≤ 256) (hin : b1 = 0 ∨ b3 + 4 * b1 ≤ bs.length) :
    Calls Tryz.prog 109 #[.slice A bs.length cap, .agg #[.int .i64 rva, .int .i64 size], .agg #[.int .i64 b0, .int .i64 b1, .int .i64 b2, .int .i64 b3, .int .i64 b4, .int .i64 b5]] w fun e w' => FuncsQ w w' (funcsL bs rva size b3 b1 0 []) e ∧ Below w.heap.size w w' := by
  have HS := Lib.hid (fun W (hW : Below w.heap.size w W) => SlB.below hs hW)
  have HLB := Lib.hid hb
  have HIN := Lib.hid hin
  have HLC := Lib.hid (And.intro hl (And.intro hc hlen))
  have HRZ := Lib.hid (And.intro hr hz)
  obtain ⟨R, hR⟩ : ∃ R, funcsL bs rva size b3 b1 0 [] = R := ⟨_, rfl⟩
  rw [hR]
  have HR := Lib.hid hR
  clear hR hs hin
  go_enter Tryz.func109, Tryz.ntmps109
  have HD := Lib.hid (show ((w.alloc (.cells #[.int .i64 rva, .int .i64 size] 37)).alloc (.cells #[.int .i64 b0, .int .i64 b1, .int .i64 b2, .int .i64 b3, .int .i64 b4, .int .i64 b5] 187)).heap[w.heap.size]? = some (.cells #[.int .i64 rva, .int .i64 size] 37 (0, 0)) from
    (Below.heap_alloc _ _ w.heap.size (by simp)).trans (heap_alloc_new w _))
  have HRW := Lib.hid (show ((w.alloc (.cells #[.int .i64 rva, .int .i64 size] 37)).alloc (.cells #[.int .i64 b0, .int .i64 b1, .int .i64 b2, .int .i64 b3, .int .i64 b4, .int .i64 b5] 187)).heap[w.heap.size + 1]? = some (.cells #[.int .i64 b0, .int .i64 b1, .int .i64 b2, .int .i64 b3, .int .i64 b4, .int .i64 b5] 187 (0, 0)) from by
    have h := heap_alloc_new (w.alloc (.cells #[.int .i64 rva, .int .i64 size] 37)) (.cells #[.int .i64 b0, .int .i64 b1, .int .i64 b2, .int .i64 b3, .int .i64 b4, .int .i64 b5] 187)
    rwa [show (w.alloc (.cells #[.int .i64 rva, .int .i64 size] 37)).heap.size = w.heap.size + 1 by simp] at h)
  have HW0 := Lib.hid (show Below w.heap.size w ((w.alloc (.cells #[.int .i64 rva, .int .i64 size] 37)).alloc (.cells #[.int .i64 b0, .int .i64 b1, .int .i64 b2, .int .i64 b3, .int .i64 b4, .int .i64 b5] 187)) from ((Below.refl w.heap.size w).alloc (Nat.le_refl _) _).alloc (by simp) _)
  have hsz : ((w.alloc (.cells #[.int .i64 rva, .int .i64 size] 37)).alloc (.cells #[.int .i64 b0, .int .i64 b1, .int .i64 b2, .int .i64 b3, .int .i64 b4, .int .i64 b5] 187)).heap.size = w.heap.size + 2 := by simp
  have HSZ := Lib.hid hsz
  have hM1 : 24 * b1 ≤ 281474976710656 := by omega
  have hM2 : b1 ≤ maxLen := by unfold maxLen; omega
  have HM1 := Lib.hid hM1
  have HM2 := Lib.hid hM2
  have HM3 := Lib.hid (show w.heap.size + 2 ≤ ((w.alloc (.cells #[.int .i64 rva, .int .i64 size] 37)).alloc (.cells #[.int .i64 b0, .int .i64 b1, .int .i64 b2, .int .i64 b3, .int .i64 b4, .int .i64 b5] 187)).heap.size from by rw [hsz]; exact Nat.le_refl _)
  clear hsz hM1 hM2
  go_upto_region 2 with (first
    | (refine wpList_makeT (C := gC) (sz := 2) rfl _ _ 42 rfl (w.heap.size + 2) 74 _ 24 rfl infoFunc .i64 .i64 b1 rfl rfl HM1.out HM2.out HM3.out ?_; intro w1 hown1 hw1; have HO1 := Lib.hid hown1; have HW1 := Lib.hid hw1; clear hown1 hw1)
    | fail)
  have HD1 := Lib.hid ((HW1.out.block w.heap.size (by rw [HSZ.out]; omega)).trans HD.out)
  have HRW1 := Lib.hid ((HW1.out.block (w.heap.size + 1) (by rw [HSZ.out]; omega)).trans HRW.out)
  have HB1 := Lib.hid (HW0.out.trans (HW1.out.mono HW0.out.size))
  have hO1 := HO1.out
  rw [HSZ.out] at hO1
  have HOO := Lib.hid hO1
  clear HD HRW HW0 HM1 HM2 HM3 HO1 HW1 HSZ hO1
  have hc1 : w1.cell? ⟨w.heap.size + 1, 1, none⟩ = some (.int .i64 b1) := by rw [cell_of_row _ _ _ _ _ _ HRW1.out]; rfl
  go_wp2_with fail
  go_loopw [8, 17] (fun v8 v17 wr => ∃ (i k : Nat) (l : List FnV) (A' : Option Addr) (c' : Nat), i + k = b1 ∧ l.length = i ∧ v17 = .int .i64 i ∧ v8 = .slice A' i c' ∧ OwnT gC 2 wr (w.heap.size + 2) 74 (.slice A' i c') l ∧ Below w.heap.size w wr ∧ wr.heap[w.heap.size]? = some (.cells #[.int .i64 rva, .int .i64 size] 37 (0, 0)) ∧ wr.heap[w.heap.size + 1]? = some (.cells #[.int .i64 b0, .int .i64 b1, .int .i64 b2, .int .i64 b3, .int .i64 b4, .int .i64 b5] 187 (0, 0)) ∧ funcsL bs rva size b3 k i l = R) (fun _ v17 _ => b1 - (intOf v17).toNat)
  case atStart => exact ⟨0, b1, [], _, _, by omega, rfl, rfl, rfl, HOO.out, HB1.out, HD1.out, HRW1.out, HR.out⟩
  case round =>
    obtain ⟨i, k, l, A', c', hik, hli, rfl, rfl, hown, hbel, hdr, hrr, hR⟩ := hrel
    have HO := Lib.hid hown
    have HBW := Lib.hid hbel
    have HDR := Lib.hid hdr
    have HRR := Lib.hid hrr
    have HRE := Lib.hid hR
    have HLI := Lib.hid hli
    clear hown hbel hdr hrr hR hli
    by_cases hlt : i < b1
    · obtain ⟨k, rfl⟩ : ∃ q, k = q + 1 := ⟨k - 1, by omega⟩
      obtain ⟨m4, hm4⟩ : ∃ m, 4 * i = m := ⟨_, rfl⟩
      obtain ⟨o, ho⟩ : ∃ o, b3 + m4 = o := ⟨_, rfl⟩
      have hob : o + 4 ≤ bs.length := by have := HIN.out; omega
      have em : (4 : Int) * (i : Int) = (m4 : Int) := by omega
      have wm : IntKind.i64.wrap (m4 : Int) = (m4 : Int) := by rw [IntKind.wrap_i64]; omega
      have eo : (b3 : Int) + (m4 : Int) = (o : Int) := by omega
      have wo : IntKind.i64.wrap (o : Int) = (o : Int) := by have := HLC.out; rw [IntKind.wrap_i64]; omega
      have HU := Lib.hid (fun W (hW : Below w.heap.size w W) => u32e_any A cap bs o W (by have := HLC.out; omega) HLB.out hob (HS.out W hW))
      have hv := numL_lt (HLB.out.drop o) 4
      have hre := HRE.out
      simp only [funcsL] at hre
      rw [hm4, ho] at hre
      obtain ⟨v, hvv⟩ : ∃ v, numL (bs.drop o) 4 = v := ⟨_, rfl⟩
      rw [hvv] at HU hv hre
      rw [show (256 : Nat) ^ 4 = 4294967296 from rfl] at hv
      have HF := Lib.hid (fun W (hW : Below w.heap.size w W) => readFn_any A cap bs rva size v W HLB.out HLC.out.1 (by have := HLC.out; omega) (HS.out W hW) HRZ.out.1 HRZ.out.2 hv)
      have HRE2 := Lib.hid hre
      have HC := Lib.hid (fun W (hW : Below wr.heap.size wr W) => show W.cell? ⟨w.heap.size, 0, none⟩ = some (.int .i64 rva) ∧ W.cell? ⟨w.heap.size, 1, none⟩ = some (.int .i64 size) ∧ W.cell? ⟨w.heap.size + 1, 3, none⟩ = some (.int .i64 b3) from by
        have h1 := (hW.block w.heap.size (lt_of_row' HDR.out)).trans HDR.out
        have h2 := (hW.block (w.heap.size + 1) (lt_of_row' HRR.out)).trans HRR.out
        refine ⟨?_, ?_, ?_⟩
        · rw [cell_of_row _ _ _ _ _ _ h1]; rfl
        · rw [cell_of_row _ _ _ _ _ _ h1]; rfl
        · rw [cell_of_row _ _ _ _ _ _ h2]; rfl)
      clear hre hvv hm4 ho hv hob
      go_upto_region 5 with (fail)
      obtain ⟨B, HBE0⟩ : ∃ q, wr.heap.size = q := ⟨_, rfl⟩
      have HS := Lib.hid (show Below B wr wr.drew from by rw [← HBE0]; exact (Below.refl _ _).drew)
      have HBE := Lib.hid HBE0
      clear HBE0
      refine wp_region_noPanic ?_
      refine wp_region_K (fun W => Below B wr W) (fun _ => True) 99 (by kernel_rfl) ?_
      refine wpAnyK_take (i := 0) (oi := ?_) (v := ?_) ?_ (by kernel_rfl) (by kernel_rfl) (by kernel_rfl) (fun _ _ _ h => h) (by decide) ?_ HS.out (fun _ => trivial) ?_
      rotate_left 2
      · (simp only [List.getElem?_toArray, List.getElem?_cons_succ, List.getElem?_cons_zero]; rfl)
      · (first | exact Or.inr ⟨by rfl, rfl⟩ | (refine Or.inl ⟨by rfl, ?_⟩; intro W hSw; clear hSw; go_simp; try with_reducible rfl))
      try simp only [Act.put, List.setIfInBounds_toArray, List.set_cons_zero, List.set_cons_succ]
      refine wpAnyK_take (i := 1) (oi := ?_) (v := ?_) ?_ (by kernel_rfl) (by kernel_rfl) (by kernel_rfl) (fun _ _ _ h => h) (by decide) ?_ HS.out (fun _ => trivial) ?_
      rotate_left 2
      · (simp only [List.getElem?_toArray, List.getElem?_cons_succ, List.getElem?_cons_zero]; rfl)
      · (first | exact Or.inr ⟨by rfl, rfl⟩ | (refine Or.inl ⟨by rfl, ?_⟩; intro W hSw; obtain ⟨hq0, hq1, hq2⟩ := HC.out W (by rw [HBE.out]; exact hSw); clear hSw; go_simp; try with_reducible rfl))
      try simp only [Act.put, List.setIfInBounds_toArray, List.set_cons_zero, List.set_cons_succ]
      refine wpAnyK_take (i := 2) (oi := ?_) (v := ?_) ?_ (by kernel_rfl) (by kernel_rfl) (by kernel_rfl) (fun _ _ _ h => h) (by decide) ?_ HS.out (fun _ => trivial) ?_
      rotate_left 2
      · (simp only [List.getElem?_toArray, List.getElem?_cons_succ, List.getElem?_cons_zero]; rfl)
      · (first | exact Or.inr ⟨by rfl, rfl⟩ | (refine Or.inl ⟨by rfl, ?_⟩; intro W hSw; clear hSw; go_simp; try with_reducible rfl))
      try simp only [Act.put, List.setIfInBounds_toArray, List.set_cons_zero, List.set_cons_succ]
      refine wpAnyK_take (i := 3) (oi := ?_) (v := ?_) ?_ (by kernel_rfl) (by kernel_rfl) (by kernel_rfl) (fun _ _ _ h => h) (by decide) ?_ HS.out (fun _ => trivial) ?_
      rotate_left 2
      · (simp only [List.getElem?_toArray, List.getElem?_cons_succ, List.getElem?_cons_zero]; rfl)
      · (first | exact Or.inr ⟨by rfl, rfl⟩ | (refine Or.inl ⟨by rfl, ?_⟩; intro W hSw; clear hSw; go_simp; try with_reducible rfl))
      try simp only [Act.put, List.setIfInBounds_toArray, List.set_cons_zero, List.set_cons_succ]
      refine wpAnyK_take (i := 4) (oi := ?_) (v := ?_) ?_ (by kernel_rfl) (by kernel_rfl) (by kernel_rfl) (fun _ _ _ h => h) (by decide) ?_ HS.out (fun _ => trivial) ?_
      rotate_left 2
      · (simp only [List.getElem?_toArray, List.getElem?_cons_succ, List.getElem?_cons_zero]; rfl)
      · (first | exact Or.inr ⟨by rfl, rfl⟩ | (refine Or.inl ⟨by rfl, ?_⟩; intro W hSw; obtain ⟨hq0, hq1, hq2⟩ := HC.out W (by rw [HBE.out]; exact hSw); clear hSw; go_simp; try with_reducible rfl))
      try simp only [Act.put, List.setIfInBounds_toArray, List.set_cons_zero, List.set_cons_succ]
      refine wpAnyK_take (i := 5) (oi := ?_) (v := ?_) ?_ (by kernel_rfl) (by kernel_rfl) (by kernel_rfl) (fun _ _ _ h => h) (by decide) ?_ HS.out (fun _ => trivial) ?_
      rotate_left 2
      · (simp only [List.getElem?_toArray, List.getElem?_cons_succ, List.getElem?_cons_zero]; rfl)
      · (first | exact Or.inr ⟨by rfl, rfl⟩ | (refine Or.inl ⟨by rfl, ?_⟩; intro W hSw; clear hSw; go_simp; try with_reducible rfl))
      try simp only [Act.put, List.setIfInBounds_toArray, List.set_cons_zero, List.set_cons_succ]
      refine wpAnyK_take (i := 6) (oi := ?_) (v := ?_) ?_ (by kernel_rfl) (by kernel_rfl) (by kernel_rfl) (fun _ _ _ h => h) (by decide) ?_ HS.out (fun _ => trivial) ?_
      rotate_left 2
      · (simp only [List.getElem?_toArray, List.getElem?_cons_succ, List.getElem?_cons_zero]; rfl)
      · (first | exact Or.inr ⟨by rfl, rfl⟩ | (refine Or.inl ⟨by rfl, ?_⟩; intro W hSw; clear hSw; go_simp; try with_reducible rfl))
      try simp only [Act.put, List.setIfInBounds_toArray, List.set_cons_zero, List.set_cons_succ]
      refine wpAnyK_take (i := 7) (oi := ?_) (v := ?_) ?_ (by kernel_rfl) (by kernel_rfl) (by kernel_rfl) (fun _ _ _ h => h) (by decide) ?_ HS.out (fun _ => trivial) ?_
      rotate_left 2
      · (simp only [List.getElem?_toArray, List.getElem?_cons_succ, List.getElem?_cons_zero]; rfl)
      · (first | exact Or.inr ⟨by rfl, rfl⟩ | (refine Or.inl ⟨by rfl, ?_⟩; intro W hSw; clear hSw; go_simp; try with_reducible rfl))
      try simp only [Act.put, List.setIfInBounds_toArray, List.set_cons_zero, List.set_cons_succ]
      refine wpAnyK_takeQ (i := 8) (oi := ?_) (v := .int .i64 v) ?_ (by kernel_rfl) (by kernel_rfl) (by kernel_rfl) (fun _ _ _ h => h) (by decide) ?_ HS.out (fun _ => trivial) ?_
      rotate_left 1
      · (simp only [List.getElem?_toArray, List.getElem?_cons_succ, List.getElem?_cons_zero]; rfl)
      · refine ⟨by rfl, fun W hW => ⟨132, #[.slice A bs.length cap, .int .i64 o], ?_, HU.out W (HBW.out.trans (hW.mono (by have := HBW.out.size; rw [← HBE.out]; exact this)))⟩⟩
        first | kernel_rfl | (go_simp; done) | rfl
      try simp only [Act.put, List.setIfInBounds_toArray, List.set_cons_zero, List.set_cons_succ]
      have HBB := Lib.hid (show w.heap.size ≤ B from by rw [← HBE.out]; exact HBW.out.size)
      have HBL := Lib.hid (fun W (hW : Below B wr W) => show B ≤ W.heap.size from by rw [← HBE.out]; exact hW.size)
      have HBWW := Lib.hid (fun W (hW : Below B wr W) => HBW.out.trans (hW.mono HBB.out))
      have HOB := Lib.hid (fun W (hW : Below B wr W) => HO.out.below (by rw [HBE.out]; exact hW))
      have HDB := Lib.hid (fun W (hW : Below B wr W) => (hW.block w.heap.size (by rw [← HBE.out]; exact lt_of_row' HDR.out)).trans HDR.out)
      have HRB := Lib.hid (fun W (hW : Below B wr W) => (hW.block (w.heap.size + 1) (by rw [← HBE.out]; exact lt_of_row' HRR.out)).trans HRR.out)
      refine wpAnyK_two (i := 9) (j := 13) (o := ?_) (o2 := ?_) (by kernel_rfl) ?_ ?_ (fun K hK => ?callA) (fun K hK => ?allocA)
      rotate_left 2
      · (simp only [List.getElem?_toArray, List.getElem?_cons_succ, List.getElem?_cons_zero]; rfl)
      · (simp only [List.getElem?_toArray, List.getElem?_cons_succ, List.getElem?_cons_zero]; rfl)
      case' callA =>
        go_simp
        go_at_call 134
        refine (HF.out _ (HBWW.out _ HS.out)).mono ?_
        rintro e w2 ⟨⟨x, S, ok, rfl, hq1, hq2⟩, hw2⟩
        have HS2 := Lib.hid (HS.out.trans (hw2.mono (HBL.out _ HS.out)))
        clear hw2
        refine hK.out _ _ HS2.out (fun _ => trivial) ?_
        clear hK K
        try simp only [Act.put, List.setIfInBounds_toArray, List.set_cons_zero, List.set_cons_succ]
        refine wpAnyK_take (i := 10) (oi := ?_) (v := ?_) ?_ (by kernel_rfl) (by kernel_rfl) (by kernel_rfl) (fun _ _ _ h => h) (by decide) ?_ HS2.out (fun _ => trivial) ?_
        rotate_left 2
        · (simp only [List.getElem?_toArray, List.getElem?_cons_succ, List.getElem?_cons_zero]; rfl)
        · (first | exact Or.inr ⟨by rfl, rfl⟩ | (refine Or.inl ⟨by rfl, ?_⟩; intro W hSw; clear hSw; go_simp; try with_reducible rfl))
        try simp only [Act.put, List.setIfInBounds_toArray, List.set_cons_zero, List.set_cons_succ]
        refine wpAnyK_take (i := 11) (oi := ?_) (v := ?_) ?_ (by kernel_rfl) (by kernel_rfl) (by kernel_rfl) (fun _ _ _ h => h) (by decide) ?_ HS2.out (fun _ => trivial) ?_
        rotate_left 2
        · (simp only [List.getElem?_toArray, List.getElem?_cons_succ, List.getElem?_cons_zero]; rfl)
        · (first | exact Or.inr ⟨by rfl, rfl⟩ | (refine Or.inl ⟨by rfl, ?_⟩; intro W hSw; clear hSw; go_simp; try with_reducible rfl))
        try simp only [Act.put, List.setIfInBounds_toArray, List.set_cons_zero, List.set_cons_succ]
        refine wpAnyK_take (i := 12) (oi := ?_) (v := ?_) ?_ (by kernel_rfl) (by kernel_rfl) (by kernel_rfl) (fun _ _ _ h => h) (by decide) ?_ HS2.out (fun _ => trivial) ?_
        rotate_left 2
        · (simp only [List.getElem?_toArray, List.getElem?_cons_succ, List.getElem?_cons_zero]; rfl)
        · (first | exact Or.inr ⟨by rfl, rfl⟩ | (refine Or.inl ⟨by rfl, ?_⟩; intro W hSw; clear hSw; go_simp; try with_reducible rfl))
        try simp only [Act.put, List.setIfInBounds_toArray, List.set_cons_zero, List.set_cons_succ]
        refine wpAnyK_one (i := 13) (o := ?_) (by kernel_rfl) ?_ (fun K hK => ?_)
        rotate_left 1
        · (simp only [List.getElem?_toArray, List.getElem?_cons_succ, List.getElem?_cons_zero]; rfl)
        go_simp
        have HS3 := Lib.hid (HS2.out.alloc (HBL.out _ HS2.out) (.cells #[.int .i64 0, .string ⟨#[]⟩] 74))
        have HZ3 := Lib.hid (heap_alloc_new w2 (.cells #[.int .i64 0, .string ⟨#[]⟩] 74))
        have HG3 := Lib.hid (HBL.out _ HS2.out)
        refine hK.out _ _ HS3.out (fun _ => trivial) ?_
        clear hK K
        try simp only [Act.put, List.setIfInBounds_toArray, List.set_cons_zero, List.set_cons_succ]
        generalize w2.alloc (.cells #[.int .i64 0, .string ⟨#[]⟩] 74) = w3 at *
        generalize w2.heap.size = b10 at *
      case' allocA =>
        go_simp
        have HS2 := Lib.hid (show Below B wr (wr.alloc (.cells #[.int .i64 0, .string ⟨#[]⟩] 74)).drew from HS.out.alloc (HBL.out _ HS.out) (.cells #[.int .i64 0, .string ⟨#[]⟩] 74))
        have HZ2 := Lib.hid (show (wr.alloc (.cells #[.int .i64 0, .string ⟨#[]⟩] 74)).drew.heap[wr.heap.size]? = some (.cells #[.int .i64 0, .string ⟨#[]⟩] 74 (0, 0)) from heap_alloc_new wr (.cells #[.int .i64 0, .string ⟨#[]⟩] 74))
        have HG3 := Lib.hid (show B ≤ wr.heap.size from HBL.out _ (Below.refl _ _))
        refine hK.out _ _ HS2.out (fun _ => trivial) ?_
        clear hK K
        try simp only [Act.put, List.setIfInBounds_toArray, List.set_cons_zero, List.set_cons_succ]
        generalize (wr.alloc (.cells #[.int .i64 0, .string ⟨#[]⟩] 74)).drew = w2 at *
        generalize wr.heap.size = b10 at *
        refine wpAnyK_one (i := 9) (o := ?_) (by kernel_rfl) ?_ (fun K hK => ?_)
        rotate_left 1
        · (simp only [List.getElem?_toArray, List.getElem?_cons_succ, List.getElem?_cons_zero]; rfl)
        go_simp
        go_at_call 134
        refine (HF.out _ (HBWW.out _ HS2.out)).mono ?_
        rintro e w3 ⟨⟨x, S, ok, rfl, hq1, hq2⟩, hw3⟩
        have HS3 := Lib.hid (HS2.out.trans (hw3.mono (HBL.out _ HS2.out)))
        have HZ3 := Lib.hid ((hw3.block b10 (lt_of_row' HZ2.out)).trans HZ2.out)
        clear hw3
        refine hK.out _ _ HS3.out (fun _ => trivial) ?_
        clear hK K
        try simp only [Act.put, List.setIfInBounds_toArray, List.set_cons_zero, List.set_cons_succ]
        refine wpAnyK_take (i := 10) (oi := ?_) (v := ?_) ?_ (by kernel_rfl) (by kernel_rfl) (by kernel_rfl) (fun _ _ _ h => h) (by decide) ?_ HS3.out (fun _ => trivial) ?_
        rotate_left 2
        · (simp only [List.getElem?_toArray, List.getElem?_cons_succ, List.getElem?_cons_zero]; rfl)
        · (first | exact Or.inr ⟨by rfl, rfl⟩ | (refine Or.inl ⟨by rfl, ?_⟩; intro W hSw; clear hSw; go_simp; try with_reducible rfl))
        try simp only [Act.put, List.setIfInBounds_toArray, List.set_cons_zero, List.set_cons_succ]
        refine wpAnyK_take (i := 11) (oi := ?_) (v := ?_) ?_ (by kernel_rfl) (by kernel_rfl) (by kernel_rfl) (fun _ _ _ h => h) (by decide) ?_ HS3.out (fun _ => trivial) ?_
        rotate_left 2
        · (simp only [List.getElem?_toArray, List.getElem?_cons_succ, List.getElem?_cons_zero]; rfl)
        · (first | exact Or.inr ⟨by rfl, rfl⟩ | (refine Or.inl ⟨by rfl, ?_⟩; intro W hSw; clear hSw; go_simp; try with_reducible rfl))
        try simp only [Act.put, List.setIfInBounds_toArray, List.set_cons_zero, List.set_cons_succ]
        refine wpAnyK_take (i := 12) (oi := ?_) (v := ?_) ?_ (by kernel_rfl) (by kernel_rfl) (by kernel_rfl) (fun _ _ _ h => h) (by decide) ?_ HS3.out (fun _ => trivial) ?_
        rotate_left 2
        · (simp only [List.getElem?_toArray, List.getElem?_cons_succ, List.getElem?_cons_zero]; rfl)
        · (first | exact Or.inr ⟨by rfl, rfl⟩ | (refine Or.inl ⟨by rfl, ?_⟩; intro W hSw; clear hSw; go_simp; try with_reducible rfl))
        try simp only [Act.put, List.setIfInBounds_toArray, List.set_cons_zero, List.set_cons_succ]
      all_goals
        refine wpAnyK_one (i := 14) (o := ?_) (by kernel_rfl) ?_ (fun K hK => ?_)
        rotate_left 1
        · (simp only [List.getElem?_toArray, List.getElem?_cons_succ, List.getElem?_cons_zero]; rfl)
        refine step_store_row' rfl 74 _ _ rfl b10 #[.int .i64 x, .string S] ?_ ?_ 74 #[.int .i64 0, .string ⟨#[]⟩] HZ3.out (by kernel_rfl) rfl (by simp [Value.oneCell']) ?_
        · first | rfl | simp [Act.eval]
        · first | rfl | simp [Act.eval]
        have HS4 := Lib.hid (below_setRow HS3.out HG3.out #[.int .i64 x, .string S])
        have HR4 := Lib.hid (setRow_heap w3 b10 _ #[.int .i64 x, .string S] _ _ HZ3.out)
        refine hK.out _ _ HS4.out (fun _ => trivial) ?_
        clear hK K
        try simp only [Act.put, List.setIfInBounds_toArray, List.set_cons_zero, List.set_cons_succ]
        refine wpAnyK_one (i := 15) (o := ?_) (by kernel_rfl) ?_ (fun K hK => ?_)
        rotate_left 1
        · (simp only [List.getElem?_toArray, List.getElem?_cons_succ, List.getElem?_cons_zero]; rfl)
        go_simp
        refine hK.out _ _ HS4.out (fun _ => trivial) ?_
        clear hK K
        try simp only [Act.put, List.setIfInBounds_toArray, List.set_cons_zero, List.set_cons_succ]
        refine wpAnyK_done (by kernel_rfl) ?_ _
        refine NoPanic.normal ?_
        generalize w3.setRow b10 #[.int .i64 x, .string S] = w7 at *
        rcases hrd : readFn bs rva size v with _ | f
        · obtain rfl := hq1 hrd
          have hre := HRE2.out
          rw [hrd] at hre
          simp only at hre
          subst hre
          clear hq1 hq2 hrd
          go_wp2_with fail
          go_ret2
          exact ⟨rfl, HBWW.out _ HS4.out⟩
        · obtain ⟨fx, t⟩ := f
          obtain ⟨rfl, rfl, rfl⟩ := hq2 _ hrd
          have hre := HRE2.out
          rw [hrd] at hre
          simp only at hre HR4 ⊢
          have HRE3 := Lib.hid hre
          clear hq1 hq2 hrd hre
          have c0 : w7.cell? ⟨b10, 0, none⟩ = some (.int .i64 x) := by rw [cell_of_row _ _ _ _ _ _ HR4.out]; rfl
          have c1 : w7.cell? ⟨b10, 1, none⟩ = some (.string (txt t)) := by rw [cell_of_row _ _ _ _ _ _ HR4.out]; rfl
          have HA1 := Lib.hid ((HOB.out w7 HS4.out).alloc (.cells #[.int .i64 x, .string (txt t)] 74))
          have HY1 := Lib.hid (funcCells x t w7)
          have HB7 := Lib.hid (HBWW.out _ HS4.out)
          have HB8 := Lib.hid (HB7.out.alloc HB7.out.size (.cells #[.int .i64 x, .string (txt t)] 74))
          have HD8 := Lib.hid (show (w7.alloc (.cells #[.int .i64 x, .string (txt t)] 74)).heap[w.heap.size]? = _ from (Below.heap_alloc _ _ _ (lt_of_row' (HDB.out _ HS4.out))).trans (HDB.out _ HS4.out))
          have HR8 := Lib.hid (show (w7.alloc (.cells #[.int .i64 x, .string (txt t)] 74)).heap[w.heap.size + 1]? = _ from (Below.heap_alloc _ _ _ (lt_of_row' (HRB.out _ HS4.out))).trans (HRB.out _ HS4.out))
          have H3 := Lib.hid (show w.heap.size + 2 ≤ (w7.alloc (.cells #[.int .i64 x, .string (txt t)] 74)).heap.size from lt_of_row' HR8.out)
          have H4 := Lib.hid (show l.length + 1 ≤ maxLen from by rw [HLI.out]; unfold maxLen; omega)
          have H5 := Lib.hid (show (l.length + 1) * 24 ≤ 140737488355328 from by rw [HLI.out]; omega)
          have hll : l.length < 256 := by have := HLI.out; omega
          have hll2 : l.length + 1 ≤ b1 := by have := HLI.out; omega
          rw [← HLI.out] at HA1 ⊢
          go_wp2_with (first
            | (at_builtin; refine wpList_appT rfl (.tmp 35) (.tmp 37) 42 rfl (w.heap.size + 2) 74 _ 24 rfl infoFunc rfl (by omega) gC_len gC_one _ l rfl HA1.out w7.heap.size 1 rfl (x, t) HY1.out H4.out H5.out H3.out ?_; intro g5 cap5 w8 hown5 hg5 hat5)
            | fail)
          have HB9 := Lib.hid (HA1.out.grew HB8.out (by omega) HB8.out.size hg5)
          have HD9 := Lib.hid ((hg5.block w.heap.size (lt_of_row' HD8.out) (fun h => by have := (HA1.out.lt _ h.symm).1; omega)).trans HD8.out)
          have HR9 := Lib.hid ((hg5.block (w.heap.size + 1) (lt_of_row' HR8.out) (fun h => by have := (HA1.out.lt _ h.symm).1; omega)).trans HR8.out)
          have HO9 := Lib.hid hown5
          clear hown5 hg5 hat5 c0 c1
          go_roundw
          case rel => exact ⟨l.length + 1, k, l ++ [(x, t)], _, cap5, by have := HLI.out; omega, by simp, by go_num, rfl, HO9.out, HB9.out, HD9.out, HR9.out, by rw [HLI.out]; exact HRE3.out⟩
          case measure => simp [intOf]; have := HLI.out; omega
    · obtain rfl : k = 0 := by omega
      have hre := HRE.out
      simp only [funcsL] at hre
      subst hre
      go_wp2_with fail
      go_ret2
      refine ⟨⟨A', c', ?_, ?_⟩, HBW.out⟩
      · rw [HLI.out]; rfl
      · rw [HLI.out]; exact Joins.ownsRow_le HO.out (by omega)
theorem step_store_row {P : Program} {ops : Array Oper} {o : Oper} {a : Act} {w : World} {K : Act → World → Prop} {Q : Exit → Act → World → Prop} {E : Prop} (hgd : o.guard = none) (ty : TypeId) (x y : Operand) (ho : o.op = .store ty x y)
    (g : Nat) (cells : Array Value) (hx : a.eval x = .pointer (some ⟨g, 0, none⟩)) (hy : a.eval y = .agg cells)
    (t : TypeId) (old : Array Value) (hg : w.heap[g]? = some (.cells old t (0, 0))) (hi : (P.info? ty).map (·.size) = some cells.size)
    (hold : old.size = cells.size) (h1 : cells.all (·.oneCell') = true)
    (h : K (a.put o.dst undef) (w.setRow g cells)) : if Region.wanted o (yielded ops a.tmps) = true then Oper.wp P o a w K Q else E := by
  rw [if_pos (by simp [Region.wanted, hgd])]
  exact wp_store_row ty x y ho g cells hx hy t old hg hi hold h1 h
abbrev Rw.zero : Rw := ⟨0, 0, 0, 0, 0, 0⟩
theorem Rw.info (r : Rw) : (Tryz.prog.info? 187).map (·.size) = some r.cells.size := by kernel_rfl
theorem Rw.one (r : Rw) : r.cells.all (·.oneCell') = true := by simp [Rw.cells, Value.oneCell']
def FindQ (r : Option Rw) (e : Ending) : Prop := match r with
  | some r => e = .returned (.tuple #[.agg r.cells, .bool true])
  | none => ∃ r : Rw, e = .returned (.tuple #[.agg r.cells, .bool false])
set_option maxRecDepth 100000 in
set_option maxHeartbeats 8000000 in
theorem find_any (A : Option Addr) (cap : Nat) (bs : List Nat) (rva size : Int) (w : World) (hb : Lb bs) (hl : bs.length ≤ cap) (hc : cap ≤ 9223372036854775807) (hlen : bs.length ≤ 1099511627776) (hs : SlB w A bs.length (lF bs)) (hr : -9223372036854775808 ≤ rva) (hr' : rva ≤ 9223372036854775807) (hz : -9223372036854775808 ≤ size) (hz' : size ≤ 9223372036854775807) :
    Calls Tryz.prog 108 #[.slice A bs.length cap, .agg #[.int .i64 rva, .int .i64 size]] w fun e w' => FindQ (findE bs rva size) e ∧ Below w.heap.size w w' := by
  have HS := Lib.hid (fun W (hW : Below w.heap.size w W) => SlB.below hs hW)
  have HLB := Lib.hid hb
  obtain ⟨R, hR⟩ : ∃ R, findE bs rva size = R := ⟨_, rfl⟩
  rw [hR]
  unfold findE at hR
  by_cases c0 : 40 ≤ size
  case neg =>
    rw [if_neg (by omega)] at hR
    subst hR
    have d0 : size < 40 := by omega
    clear hs c0
    go_enter Tryz.func108, Tryz.ntmps108
    go_wp2_with fail
    refine bodyPost_ret (v := .tuple #[.agg Rw.zero.cells, .bool false]) (by simp [results, Tryz.results108, go_sem, Rw.cells]) rfl ⟨⟨Rw.zero, rfl⟩, by go_grown⟩
  have d0 : ¬ size < 40 := by omega
  by_cases c1 : 0 ≤ rva ∧ rva ≤ bs.length - size
  case neg =>
    have HI := Lib.hid (fun W => rowIn_any A bs.length cap rva size false W (by omega) hz hz' (by simp; omega))
    rw [if_neg (by omega)] at hR
    subst hR
    clear hs c0 c1
    go_enter Tryz.func108, Tryz.ntmps108
    go_wp2_with fail
    refine (HI.out _).mono ?_
    rintro e w' ⟨rfl, rfl⟩
    go_wp2_with fail
    refine bodyPost_ret (v := .tuple #[.agg Rw.zero.cells, .bool false]) (by simp [results, Tryz.results108, go_sem, Rw.cells]) rfl ⟨⟨Rw.zero, rfl⟩, by go_grown⟩
  rw [if_pos (by omega)] at hR
  have HI := Lib.hid (fun W => rowIn_any A bs.length cap rva size true W (by omega) hz hz' (by simp; omega))
  obtain ⟨o, rfl⟩ : ∃ o : Nat, rva = (o : Int) := ⟨rva.toNat, by omega⟩
  rw [Int.toNat_natCast] at hR
  have hob : o + 40 ≤ bs.length := by omega
  have HU16 := Lib.hid (fun W (hW : Below w.heap.size w W) => u32e_any A cap bs (o + 16) W (by omega) HLB.out (by omega) (HS.out W hW))
  have HU20 := Lib.hid (fun W (hW : Below w.heap.size w W) => u32e_any A cap bs (o + 20) W (by omega) HLB.out (by omega) (HS.out W hW))
  have HU24 := Lib.hid (fun W (hW : Below w.heap.size w W) => u32e_any A cap bs (o + 24) W (by omega) HLB.out (by omega) (HS.out W hW))
  have HU28 := Lib.hid (fun W (hW : Below w.heap.size w W) => u32e_any A cap bs (o + 28) W (by omega) HLB.out (by omega) (HS.out W hW))
  have HU32 := Lib.hid (fun W (hW : Below w.heap.size w W) => u32e_any A cap bs (o + 32) W (by omega) HLB.out (by omega) (HS.out W hW))
  have HU36 := Lib.hid (fun W (hW : Below w.heap.size w W) => u32e_any A cap bs (o + 36) W (by omega) HLB.out (by omega) (HS.out W hW))
  have hn16 := numL_lt (hb.drop (o + 16)) 4
  have hn20 := numL_lt (hb.drop (o + 20)) 4
  have hn24 := numL_lt (hb.drop (o + 24)) 4
  have hn28 := numL_lt (hb.drop (o + 28)) 4
  have hn32 := numL_lt (hb.drop (o + 32)) 4
  have hn36 := numL_lt (hb.drop (o + 36)) 4
  obtain ⟨r, hr0⟩ : ∃ r, rowsL bs o = r := ⟨_, rfl⟩
  rw [hr0] at hR
  obtain ⟨b0, b1, b2, b3, b4, b5⟩ := r
  unfold rowsL at hr0
  injection hr0 with h0 h1 h2 h3 h4 h5
  rw [h0] at HU16 hn16
  rw [h1] at HU20 hn20
  rw [h2] at HU24 hn24
  rw [h3] at HU28 hn28
  rw [h4] at HU32 hn32
  rw [h5] at HU36 hn36
  obtain ⟨o16, ho16⟩ : ∃ q, o + 16 = q := ⟨_, rfl⟩
  obtain ⟨o20, ho20⟩ : ∃ q, o + 20 = q := ⟨_, rfl⟩
  obtain ⟨o24, ho24⟩ : ∃ q, o + 24 = q := ⟨_, rfl⟩
  obtain ⟨o28, ho28⟩ : ∃ q, o + 28 = q := ⟨_, rfl⟩
  obtain ⟨o32, ho32⟩ : ∃ q, o + 32 = q := ⟨_, rfl⟩
  obtain ⟨o36, ho36⟩ : ∃ q, o + 36 = q := ⟨_, rfl⟩
  rw [ho16] at HU16
  rw [ho20] at HU20
  rw [ho24] at HU24
  rw [ho28] at HU28
  rw [ho32] at HU32
  rw [ho36] at HU36
  have e16 : (o : Int) + 16 = (o16 : Int) := by omega
  have e20 : (o : Int) + 20 = (o20 : Int) := by omega
  have e24 : (o : Int) + 24 = (o24 : Int) := by omega
  have e28 : (o : Int) + 28 = (o28 : Int) := by omega
  have e32 : (o : Int) + 32 = (o32 : Int) := by omega
  have e36 : (o : Int) + 36 = (o36 : Int) := by omega
  have w16 : IntKind.i64.wrap (o16 : Int) = (o16 : Int) := by rw [IntKind.wrap_i64]; omega
  have w20 : IntKind.i64.wrap (o20 : Int) = (o20 : Int) := by rw [IntKind.wrap_i64]; omega
  have w24 : IntKind.i64.wrap (o24 : Int) = (o24 : Int) := by rw [IntKind.wrap_i64]; omega
  have w28 : IntKind.i64.wrap (o28 : Int) = (o28 : Int) := by rw [IntKind.wrap_i64]; omega
  have w32 : IntKind.i64.wrap (o32 : Int) = (o32 : Int) := by rw [IntKind.wrap_i64]; omega
  have w36 : IntKind.i64.wrap (o36 : Int) = (o36 : Int) := by rw [IntKind.wrap_i64]; omega
  have e32 : (256 : Nat) ^ 4 = 4294967296 := rfl
  rw [e32] at hn16 hn20 hn24 hn28 hn32 hn36
  have HR := Lib.hid hR
  have HB := Lib.hid (And.intro hn16 (And.intro hn20 (And.intro hn24 (And.intro hn28 (And.intro hn32 hn36)))))
  clear h0 h1 h2 h3 h4 h5 ho16 ho20 ho24 ho28 ho32 ho36 e32 hR hs hn16 hn20 hn24 hn28 hn32 hn36 c0 c1 hob
  go_enter Tryz.func108, Tryz.ntmps108
  go_upto_region 3 with (first | (refine (HI.out _).mono ?_; rintro e w' ⟨rfl, rfl⟩) | fail)
  have hW0 : Below w.heap.size w ((w.alloc (.cells #[.int .i64 o, .int .i64 size] 37)).alloc (.cells #[.int .i64 0, .int .i64 0, .int .i64 0, .int .i64 0, .int .i64 0, .int .i64 0] 187)) := ((Below.refl w.heap.size w).alloc (Nat.le_refl _) _).alloc (by simp) _
  have hrow : ((w.alloc (.cells #[.int .i64 o, .int .i64 size] 37)).alloc (.cells #[.int .i64 0, .int .i64 0, .int .i64 0, .int .i64 0, .int .i64 0, .int .i64 0] 187)).heap[w.heap.size + 1]? = some (.cells #[.int .i64 0, .int .i64 0, .int .i64 0, .int .i64 0, .int .i64 0, .int .i64 0] 187 (0, 0)) := by
    have h := heap_alloc_new (w.alloc (.cells #[.int .i64 o, .int .i64 size] 37)) (.cells #[.int .i64 0, .int .i64 0, .int .i64 0, .int .i64 0, .int .i64 0, .int .i64 0] 187)
    rwa [show (w.alloc (.cells #[.int .i64 o, .int .i64 size] 37)).heap.size = w.heap.size + 1 by simp] at h
  have hdir : ((w.alloc (.cells #[.int .i64 o, .int .i64 size] 37)).alloc (.cells #[.int .i64 0, .int .i64 0, .int .i64 0, .int .i64 0, .int .i64 0, .int .i64 0] 187)).heap[w.heap.size]? = some (.cells #[.int .i64 o, .int .i64 size] 37 (0, 0)) :=
    (Below.heap_alloc _ _ w.heap.size (by simp)).trans (heap_alloc_new w _)
  have hsz : ((w.alloc (.cells #[.int .i64 o, .int .i64 size] 37)).alloc (.cells #[.int .i64 0, .int .i64 0, .int .i64 0, .int .i64 0, .int .i64 0, .int .i64 0] 187)).heap.size = w.heap.size + 2 := by simp
  have HW0 := Lib.hid hW0
  have HROW := Lib.hid hrow
  have HDIR := Lib.hid hdir
  have HSZ := Lib.hid hsz
  clear hW0 hrow hdir hsz
  generalize (w.alloc (.cells #[.int .i64 o, .int .i64 size] 37)).alloc (.cells #[.int .i64 0, .int .i64 0, .int .i64 0, .int .i64 0, .int .i64 0, .int .i64 0] 187) = wc at *
  have HD0 := Lib.hid (fun W (hW : Below wc.heap.size wc W) => show W.cell? ⟨w.heap.size, 0, none⟩ = some (.int .i64 o) from by
    rw [cell_of_row _ _ _ _ _ _ ((hW.block w.heap.size (by rw [HSZ.out]; omega)).trans HDIR.out)]; rfl)
  have HS := Lib.hid (show Below wc.heap.size wc wc.drew from (Below.refl _ _).drew)
  refine wp_region_noPanic ?_
  refine wp_region_K (fun W => Below wc.heap.size wc W) (fun _ => True) 99 (by kernel_rfl) ?_
  replace HU16 := Lib.hid (fun W (hW : Below wc.heap.size wc W) => HU16.out W (HW0.out.trans (hW.mono HW0.out.size)))
  replace HU20 := Lib.hid (fun W (hW : Below wc.heap.size wc W) => HU20.out W (HW0.out.trans (hW.mono HW0.out.size)))
  replace HU24 := Lib.hid (fun W (hW : Below wc.heap.size wc W) => HU24.out W (HW0.out.trans (hW.mono HW0.out.size)))
  replace HU28 := Lib.hid (fun W (hW : Below wc.heap.size wc W) => HU28.out W (HW0.out.trans (hW.mono HW0.out.size)))
  replace HU32 := Lib.hid (fun W (hW : Below wc.heap.size wc W) => HU32.out W (HW0.out.trans (hW.mono HW0.out.size)))
  replace HU36 := Lib.hid (fun W (hW : Below wc.heap.size wc W) => HU36.out W (HW0.out.trans (hW.mono HW0.out.size)))
  refine wpAnyK_take (i := 0) (oi := ?_) (v := ?_) ?_ (by kernel_rfl) (by kernel_rfl) (by kernel_rfl) (fun _ _ _ h => h) (by decide) ?_ HS.out (fun _ => trivial) ?_
  rotate_left 2
  · (simp only [List.getElem?_toArray, List.getElem?_cons_succ, List.getElem?_cons_zero]; rfl)
  · (first | exact Or.inr ⟨by rfl, rfl⟩ | (refine Or.inl ⟨by rfl, ?_⟩; intro W hSw; clear hSw; go_simp; try with_reducible rfl))
  try simp only [Act.put, List.setIfInBounds_toArray, List.set_cons_zero, List.set_cons_succ]
  refine wpAnyK_take (i := 1) (oi := ?_) (v := ?_) ?_ (by kernel_rfl) (by kernel_rfl) (by kernel_rfl) (fun _ _ _ h => h) (by decide) ?_ HS.out (fun _ => trivial) ?_
  rotate_left 2
  · (simp only [List.getElem?_toArray, List.getElem?_cons_succ, List.getElem?_cons_zero]; rfl)
  · (first | exact Or.inr ⟨by rfl, rfl⟩ | (refine Or.inl ⟨by rfl, ?_⟩; intro W hSw; clear hSw; go_simp; try with_reducible rfl))
  try simp only [Act.put, List.setIfInBounds_toArray, List.set_cons_zero, List.set_cons_succ]
  refine wpAnyK_take (i := 2) (oi := ?_) (v := ?_) ?_ (by kernel_rfl) (by kernel_rfl) (by kernel_rfl) (fun _ _ _ h => h) (by decide) ?_ HS.out (fun _ => trivial) ?_
  rotate_left 2
  · (simp only [List.getElem?_toArray, List.getElem?_cons_succ, List.getElem?_cons_zero]; rfl)
  · (first | exact Or.inr ⟨by rfl, rfl⟩ | (refine Or.inl ⟨by rfl, ?_⟩; intro W hSw; have hq := HD0.out W hSw; clear hSw; go_simp; try with_reducible rfl))
  try simp only [Act.put, List.setIfInBounds_toArray, List.set_cons_zero, List.set_cons_succ]
  refine wpAnyK_take (i := 3) (oi := ?_) (v := ?_) ?_ (by kernel_rfl) (by kernel_rfl) (by kernel_rfl) (fun _ _ _ h => h) (by decide) ?_ HS.out (fun _ => trivial) ?_
  rotate_left 2
  · (simp only [List.getElem?_toArray, List.getElem?_cons_succ, List.getElem?_cons_zero]; rfl)
  · (first | exact Or.inr ⟨by rfl, rfl⟩ | (refine Or.inl ⟨by rfl, ?_⟩; intro W hSw; clear hSw; go_simp; try with_reducible rfl))
  try simp only [Act.put, List.setIfInBounds_toArray, List.set_cons_zero, List.set_cons_succ]
  refine wpAnyK_takeQ (i := 4) (oi := ?_) (v := .int .i64 b0) ?_ (by kernel_rfl) (by kernel_rfl) (by kernel_rfl) (fun _ _ _ h => h) (by decide) ?_ HS.out (fun _ => trivial) ?_
  rotate_left 1
  · (simp only [List.getElem?_toArray, List.getElem?_cons_succ, List.getElem?_cons_zero]; rfl)
  · refine ⟨by rfl, fun W hW => ⟨132, #[.slice A bs.length cap, .int .i64 o16], ?_, HU16.out W hW⟩⟩
    first | kernel_rfl | (go_simp; done) | rfl
  try simp only [Act.put, List.setIfInBounds_toArray, List.set_cons_zero, List.set_cons_succ]
  refine wpAnyK_take (i := 5) (oi := ?_) (v := ?_) ?_ (by kernel_rfl) (by kernel_rfl) (by kernel_rfl) (fun _ _ _ h => h) (by decide) ?_ HS.out (fun _ => trivial) ?_
  rotate_left 2
  · (simp only [List.getElem?_toArray, List.getElem?_cons_succ, List.getElem?_cons_zero]; rfl)
  · (first | exact Or.inr ⟨by rfl, rfl⟩ | (refine Or.inl ⟨by rfl, ?_⟩; intro W hSw; clear hSw; go_simp; try with_reducible rfl))
  try simp only [Act.put, List.setIfInBounds_toArray, List.set_cons_zero, List.set_cons_succ]
  refine wpAnyK_take (i := 6) (oi := ?_) (v := ?_) ?_ (by kernel_rfl) (by kernel_rfl) (by kernel_rfl) (fun _ _ _ h => h) (by decide) ?_ HS.out (fun _ => trivial) ?_
  rotate_left 2
  · (simp only [List.getElem?_toArray, List.getElem?_cons_succ, List.getElem?_cons_zero]; rfl)
  · (first | exact Or.inr ⟨by rfl, rfl⟩ | (refine Or.inl ⟨by rfl, ?_⟩; intro W hSw; clear hSw; go_simp; try with_reducible rfl))
  try simp only [Act.put, List.setIfInBounds_toArray, List.set_cons_zero, List.set_cons_succ]
  refine wpAnyK_take (i := 7) (oi := ?_) (v := ?_) ?_ (by kernel_rfl) (by kernel_rfl) (by kernel_rfl) (fun _ _ _ h => h) (by decide) ?_ HS.out (fun _ => trivial) ?_
  rotate_left 2
  · (simp only [List.getElem?_toArray, List.getElem?_cons_succ, List.getElem?_cons_zero]; rfl)
  · (first | exact Or.inr ⟨by rfl, rfl⟩ | (refine Or.inl ⟨by rfl, ?_⟩; intro W hSw; have hq := HD0.out W hSw; clear hSw; go_simp; try with_reducible rfl))
  try simp only [Act.put, List.setIfInBounds_toArray, List.set_cons_zero, List.set_cons_succ]
  refine wpAnyK_take (i := 8) (oi := ?_) (v := ?_) ?_ (by kernel_rfl) (by kernel_rfl) (by kernel_rfl) (fun _ _ _ h => h) (by decide) ?_ HS.out (fun _ => trivial) ?_
  rotate_left 2
  · (simp only [List.getElem?_toArray, List.getElem?_cons_succ, List.getElem?_cons_zero]; rfl)
  · (first | exact Or.inr ⟨by rfl, rfl⟩ | (refine Or.inl ⟨by rfl, ?_⟩; intro W hSw; clear hSw; go_simp; try with_reducible rfl))
  try simp only [Act.put, List.setIfInBounds_toArray, List.set_cons_zero, List.set_cons_succ]
  refine wpAnyK_takeQ (i := 9) (oi := ?_) (v := .int .i64 b1) ?_ (by kernel_rfl) (by kernel_rfl) (by kernel_rfl) (fun _ _ _ h => h) (by decide) ?_ HS.out (fun _ => trivial) ?_
  rotate_left 1
  · (simp only [List.getElem?_toArray, List.getElem?_cons_succ, List.getElem?_cons_zero]; rfl)
  · refine ⟨by rfl, fun W hW => ⟨132, #[.slice A bs.length cap, .int .i64 o20], ?_, HU20.out W hW⟩⟩
    first | kernel_rfl | (go_simp; done) | rfl
  try simp only [Act.put, List.setIfInBounds_toArray, List.set_cons_zero, List.set_cons_succ]
  refine wpAnyK_take (i := 10) (oi := ?_) (v := ?_) ?_ (by kernel_rfl) (by kernel_rfl) (by kernel_rfl) (fun _ _ _ h => h) (by decide) ?_ HS.out (fun _ => trivial) ?_
  rotate_left 2
  · (simp only [List.getElem?_toArray, List.getElem?_cons_succ, List.getElem?_cons_zero]; rfl)
  · (first | exact Or.inr ⟨by rfl, rfl⟩ | (refine Or.inl ⟨by rfl, ?_⟩; intro W hSw; clear hSw; go_simp; try with_reducible rfl))
  try simp only [Act.put, List.setIfInBounds_toArray, List.set_cons_zero, List.set_cons_succ]
  refine wpAnyK_take (i := 11) (oi := ?_) (v := ?_) ?_ (by kernel_rfl) (by kernel_rfl) (by kernel_rfl) (fun _ _ _ h => h) (by decide) ?_ HS.out (fun _ => trivial) ?_
  rotate_left 2
  · (simp only [List.getElem?_toArray, List.getElem?_cons_succ, List.getElem?_cons_zero]; rfl)
  · (first | exact Or.inr ⟨by rfl, rfl⟩ | (refine Or.inl ⟨by rfl, ?_⟩; intro W hSw; clear hSw; go_simp; try with_reducible rfl))
  try simp only [Act.put, List.setIfInBounds_toArray, List.set_cons_zero, List.set_cons_succ]
  refine wpAnyK_take (i := 12) (oi := ?_) (v := ?_) ?_ (by kernel_rfl) (by kernel_rfl) (by kernel_rfl) (fun _ _ _ h => h) (by decide) ?_ HS.out (fun _ => trivial) ?_
  rotate_left 2
  · (simp only [List.getElem?_toArray, List.getElem?_cons_succ, List.getElem?_cons_zero]; rfl)
  · (first | exact Or.inr ⟨by rfl, rfl⟩ | (refine Or.inl ⟨by rfl, ?_⟩; intro W hSw; have hq := HD0.out W hSw; clear hSw; go_simp; try with_reducible rfl))
  try simp only [Act.put, List.setIfInBounds_toArray, List.set_cons_zero, List.set_cons_succ]
  refine wpAnyK_take (i := 13) (oi := ?_) (v := ?_) ?_ (by kernel_rfl) (by kernel_rfl) (by kernel_rfl) (fun _ _ _ h => h) (by decide) ?_ HS.out (fun _ => trivial) ?_
  rotate_left 2
  · (simp only [List.getElem?_toArray, List.getElem?_cons_succ, List.getElem?_cons_zero]; rfl)
  · (first | exact Or.inr ⟨by rfl, rfl⟩ | (refine Or.inl ⟨by rfl, ?_⟩; intro W hSw; clear hSw; go_simp; try with_reducible rfl))
  try simp only [Act.put, List.setIfInBounds_toArray, List.set_cons_zero, List.set_cons_succ]
  refine wpAnyK_takeQ (i := 14) (oi := ?_) (v := .int .i64 b2) ?_ (by kernel_rfl) (by kernel_rfl) (by kernel_rfl) (fun _ _ _ h => h) (by decide) ?_ HS.out (fun _ => trivial) ?_
  rotate_left 1
  · (simp only [List.getElem?_toArray, List.getElem?_cons_succ, List.getElem?_cons_zero]; rfl)
  · refine ⟨by rfl, fun W hW => ⟨132, #[.slice A bs.length cap, .int .i64 o24], ?_, HU24.out W hW⟩⟩
    first | kernel_rfl | (go_simp; done) | rfl
  try simp only [Act.put, List.setIfInBounds_toArray, List.set_cons_zero, List.set_cons_succ]
  refine wpAnyK_take (i := 15) (oi := ?_) (v := ?_) ?_ (by kernel_rfl) (by kernel_rfl) (by kernel_rfl) (fun _ _ _ h => h) (by decide) ?_ HS.out (fun _ => trivial) ?_
  rotate_left 2
  · (simp only [List.getElem?_toArray, List.getElem?_cons_succ, List.getElem?_cons_zero]; rfl)
  · (first | exact Or.inr ⟨by rfl, rfl⟩ | (refine Or.inl ⟨by rfl, ?_⟩; intro W hSw; clear hSw; go_simp; try with_reducible rfl))
  try simp only [Act.put, List.setIfInBounds_toArray, List.set_cons_zero, List.set_cons_succ]
  refine wpAnyK_take (i := 16) (oi := ?_) (v := ?_) ?_ (by kernel_rfl) (by kernel_rfl) (by kernel_rfl) (fun _ _ _ h => h) (by decide) ?_ HS.out (fun _ => trivial) ?_
  rotate_left 2
  · (simp only [List.getElem?_toArray, List.getElem?_cons_succ, List.getElem?_cons_zero]; rfl)
  · (first | exact Or.inr ⟨by rfl, rfl⟩ | (refine Or.inl ⟨by rfl, ?_⟩; intro W hSw; clear hSw; go_simp; try with_reducible rfl))
  try simp only [Act.put, List.setIfInBounds_toArray, List.set_cons_zero, List.set_cons_succ]
  refine wpAnyK_take (i := 17) (oi := ?_) (v := ?_) ?_ (by kernel_rfl) (by kernel_rfl) (by kernel_rfl) (fun _ _ _ h => h) (by decide) ?_ HS.out (fun _ => trivial) ?_
  rotate_left 2
  · (simp only [List.getElem?_toArray, List.getElem?_cons_succ, List.getElem?_cons_zero]; rfl)
  · (first | exact Or.inr ⟨by rfl, rfl⟩ | (refine Or.inl ⟨by rfl, ?_⟩; intro W hSw; have hq := HD0.out W hSw; clear hSw; go_simp; try with_reducible rfl))
  try simp only [Act.put, List.setIfInBounds_toArray, List.set_cons_zero, List.set_cons_succ]
  refine wpAnyK_take (i := 18) (oi := ?_) (v := ?_) ?_ (by kernel_rfl) (by kernel_rfl) (by kernel_rfl) (fun _ _ _ h => h) (by decide) ?_ HS.out (fun _ => trivial) ?_
  rotate_left 2
  · (simp only [List.getElem?_toArray, List.getElem?_cons_succ, List.getElem?_cons_zero]; rfl)
  · (first | exact Or.inr ⟨by rfl, rfl⟩ | (refine Or.inl ⟨by rfl, ?_⟩; intro W hSw; clear hSw; go_simp; try with_reducible rfl))
  try simp only [Act.put, List.setIfInBounds_toArray, List.set_cons_zero, List.set_cons_succ]
  refine wpAnyK_takeQ (i := 19) (oi := ?_) (v := .int .i64 b3) ?_ (by kernel_rfl) (by kernel_rfl) (by kernel_rfl) (fun _ _ _ h => h) (by decide) ?_ HS.out (fun _ => trivial) ?_
  rotate_left 1
  · (simp only [List.getElem?_toArray, List.getElem?_cons_succ, List.getElem?_cons_zero]; rfl)
  · refine ⟨by rfl, fun W hW => ⟨132, #[.slice A bs.length cap, .int .i64 o28], ?_, HU28.out W hW⟩⟩
    first | kernel_rfl | (go_simp; done) | rfl
  try simp only [Act.put, List.setIfInBounds_toArray, List.set_cons_zero, List.set_cons_succ]
  refine wpAnyK_take (i := 20) (oi := ?_) (v := ?_) ?_ (by kernel_rfl) (by kernel_rfl) (by kernel_rfl) (fun _ _ _ h => h) (by decide) ?_ HS.out (fun _ => trivial) ?_
  rotate_left 2
  · (simp only [List.getElem?_toArray, List.getElem?_cons_succ, List.getElem?_cons_zero]; rfl)
  · (first | exact Or.inr ⟨by rfl, rfl⟩ | (refine Or.inl ⟨by rfl, ?_⟩; intro W hSw; clear hSw; go_simp; try with_reducible rfl))
  try simp only [Act.put, List.setIfInBounds_toArray, List.set_cons_zero, List.set_cons_succ]
  refine wpAnyK_take (i := 21) (oi := ?_) (v := ?_) ?_ (by kernel_rfl) (by kernel_rfl) (by kernel_rfl) (fun _ _ _ h => h) (by decide) ?_ HS.out (fun _ => trivial) ?_
  rotate_left 2
  · (simp only [List.getElem?_toArray, List.getElem?_cons_succ, List.getElem?_cons_zero]; rfl)
  · (first | exact Or.inr ⟨by rfl, rfl⟩ | (refine Or.inl ⟨by rfl, ?_⟩; intro W hSw; clear hSw; go_simp; try with_reducible rfl))
  try simp only [Act.put, List.setIfInBounds_toArray, List.set_cons_zero, List.set_cons_succ]
  refine wpAnyK_take (i := 22) (oi := ?_) (v := ?_) ?_ (by kernel_rfl) (by kernel_rfl) (by kernel_rfl) (fun _ _ _ h => h) (by decide) ?_ HS.out (fun _ => trivial) ?_
  rotate_left 2
  · (simp only [List.getElem?_toArray, List.getElem?_cons_succ, List.getElem?_cons_zero]; rfl)
  · (first | exact Or.inr ⟨by rfl, rfl⟩ | (refine Or.inl ⟨by rfl, ?_⟩; intro W hSw; have hq := HD0.out W hSw; clear hSw; go_simp; try with_reducible rfl))
  try simp only [Act.put, List.setIfInBounds_toArray, List.set_cons_zero, List.set_cons_succ]
  refine wpAnyK_take (i := 23) (oi := ?_) (v := ?_) ?_ (by kernel_rfl) (by kernel_rfl) (by kernel_rfl) (fun _ _ _ h => h) (by decide) ?_ HS.out (fun _ => trivial) ?_
  rotate_left 2
  · (simp only [List.getElem?_toArray, List.getElem?_cons_succ, List.getElem?_cons_zero]; rfl)
  · (first | exact Or.inr ⟨by rfl, rfl⟩ | (refine Or.inl ⟨by rfl, ?_⟩; intro W hSw; clear hSw; go_simp; try with_reducible rfl))
  try simp only [Act.put, List.setIfInBounds_toArray, List.set_cons_zero, List.set_cons_succ]
  refine wpAnyK_takeQ (i := 24) (oi := ?_) (v := .int .i64 b4) ?_ (by kernel_rfl) (by kernel_rfl) (by kernel_rfl) (fun _ _ _ h => h) (by decide) ?_ HS.out (fun _ => trivial) ?_
  rotate_left 1
  · (simp only [List.getElem?_toArray, List.getElem?_cons_succ, List.getElem?_cons_zero]; rfl)
  · refine ⟨by rfl, fun W hW => ⟨132, #[.slice A bs.length cap, .int .i64 o32], ?_, HU32.out W hW⟩⟩
    first | kernel_rfl | (go_simp; done) | rfl
  try simp only [Act.put, List.setIfInBounds_toArray, List.set_cons_zero, List.set_cons_succ]
  refine wpAnyK_take (i := 25) (oi := ?_) (v := ?_) ?_ (by kernel_rfl) (by kernel_rfl) (by kernel_rfl) (fun _ _ _ h => h) (by decide) ?_ HS.out (fun _ => trivial) ?_
  rotate_left 2
  · (simp only [List.getElem?_toArray, List.getElem?_cons_succ, List.getElem?_cons_zero]; rfl)
  · (first | exact Or.inr ⟨by rfl, rfl⟩ | (refine Or.inl ⟨by rfl, ?_⟩; intro W hSw; clear hSw; go_simp; try with_reducible rfl))
  try simp only [Act.put, List.setIfInBounds_toArray, List.set_cons_zero, List.set_cons_succ]
  refine wpAnyK_take (i := 26) (oi := ?_) (v := ?_) ?_ (by kernel_rfl) (by kernel_rfl) (by kernel_rfl) (fun _ _ _ h => h) (by decide) ?_ HS.out (fun _ => trivial) ?_
  rotate_left 2
  · (simp only [List.getElem?_toArray, List.getElem?_cons_succ, List.getElem?_cons_zero]; rfl)
  · (first | exact Or.inr ⟨by rfl, rfl⟩ | (refine Or.inl ⟨by rfl, ?_⟩; intro W hSw; clear hSw; go_simp; try with_reducible rfl))
  try simp only [Act.put, List.setIfInBounds_toArray, List.set_cons_zero, List.set_cons_succ]
  refine wpAnyK_take (i := 27) (oi := ?_) (v := ?_) ?_ (by kernel_rfl) (by kernel_rfl) (by kernel_rfl) (fun _ _ _ h => h) (by decide) ?_ HS.out (fun _ => trivial) ?_
  rotate_left 2
  · (simp only [List.getElem?_toArray, List.getElem?_cons_succ, List.getElem?_cons_zero]; rfl)
  · (first | exact Or.inr ⟨by rfl, rfl⟩ | (refine Or.inl ⟨by rfl, ?_⟩; intro W hSw; have hq := HD0.out W hSw; clear hSw; go_simp; try with_reducible rfl))
  try simp only [Act.put, List.setIfInBounds_toArray, List.set_cons_zero, List.set_cons_succ]
  refine wpAnyK_take (i := 28) (oi := ?_) (v := ?_) ?_ (by kernel_rfl) (by kernel_rfl) (by kernel_rfl) (fun _ _ _ h => h) (by decide) ?_ HS.out (fun _ => trivial) ?_
  rotate_left 2
  · (simp only [List.getElem?_toArray, List.getElem?_cons_succ, List.getElem?_cons_zero]; rfl)
  · (first | exact Or.inr ⟨by rfl, rfl⟩ | (refine Or.inl ⟨by rfl, ?_⟩; intro W hSw; clear hSw; go_simp; try with_reducible rfl))
  try simp only [Act.put, List.setIfInBounds_toArray, List.set_cons_zero, List.set_cons_succ]
  refine wpAnyK_takeQ (i := 29) (oi := ?_) (v := .int .i64 b5) ?_ (by kernel_rfl) (by kernel_rfl) (by kernel_rfl) (fun _ _ _ h => h) (by decide) ?_ HS.out (fun _ => trivial) ?_
  rotate_left 1
  · (simp only [List.getElem?_toArray, List.getElem?_cons_succ, List.getElem?_cons_zero]; rfl)
  · refine ⟨by rfl, fun W hW => ⟨132, #[.slice A bs.length cap, .int .i64 o36], ?_, HU36.out W hW⟩⟩
    first | kernel_rfl | (go_simp; done) | rfl
  try simp only [Act.put, List.setIfInBounds_toArray, List.set_cons_zero, List.set_cons_succ]
  refine wpAnyK_take (i := 30) (oi := ?_) (v := ?_) ?_ (by kernel_rfl) (by kernel_rfl) (by kernel_rfl) (fun _ _ _ h => h) (by decide) ?_ HS.out (fun _ => trivial) ?_
  rotate_left 2
  · (simp only [List.getElem?_toArray, List.getElem?_cons_succ, List.getElem?_cons_zero]; rfl)
  · (first | exact Or.inr ⟨by rfl, rfl⟩ | (refine Or.inl ⟨by rfl, ?_⟩; intro W hSw; clear hSw; go_simp; try with_reducible rfl))
  try simp only [Act.put, List.setIfInBounds_toArray, List.set_cons_zero, List.set_cons_succ]
  refine wpAnyK_one (i := 31) (o := ?_) (by kernel_rfl) ?_ (fun K hK => ?_)
  rotate_left 1
  · (simp only [List.getElem?_toArray, List.getElem?_cons_succ, List.getElem?_cons_zero]; rfl)
  go_simp
  have HS2 := Lib.hid (HS.out.alloc HS.out.size (.cells #[.int .i64 0, .int .i64 0, .int .i64 0, .int .i64 0, .int .i64 0, .int .i64 0] 187))
  refine hK.out _ _ HS2.out (fun _ => trivial) ?_
  clear hK K
  try simp only [Act.put, List.setIfInBounds_toArray, List.set_cons_zero, List.set_cons_succ]
  refine wpAnyK_one (i := 32) (o := ?_) (by kernel_rfl) ?_ (fun K hK => ?_)
  rotate_left 1
  · (simp only [List.getElem?_toArray, List.getElem?_cons_succ, List.getElem?_cons_zero]; rfl)
  refine step_store_row rfl 187 _ _ rfl wc.heap.size (Rw.cells ⟨b0, b1, b2, b3, b4, b5⟩) ?_ ?_ 187 Rw.zero.cells (heap_alloc_new wc.drew _) (Rw.info _) rfl (Rw.one _) ?_
  · first | rfl | simp [Act.eval]
  · first | rfl | simp [Act.eval]
  have HS3 := Lib.hid (show Below wc.heap.size wc ((wc.alloc (.cells #[.int .i64 0, .int .i64 0, .int .i64 0, .int .i64 0, .int .i64 0, .int .i64 0] 187)).drew.setRow wc.heap.size (Rw.cells ⟨b0, b1, b2, b3, b4, b5⟩)) from below_setRow HS2.out (Nat.le_refl _) (Rw.cells ⟨b0, b1, b2, b3, b4, b5⟩))
  have HR3 := Lib.hid (show ((wc.alloc (.cells #[.int .i64 0, .int .i64 0, .int .i64 0, .int .i64 0, .int .i64 0, .int .i64 0] 187)).drew.setRow wc.heap.size (Rw.cells ⟨b0, b1, b2, b3, b4, b5⟩)).heap[wc.heap.size]? = some (.cells (Rw.cells ⟨b0, b1, b2, b3, b4, b5⟩) 187 (0, 0)) from setRow_heap (wc.drew.alloc (.cells #[.int .i64 0, .int .i64 0, .int .i64 0, .int .i64 0, .int .i64 0, .int .i64 0] 187)) wc.heap.size _ (Rw.cells ⟨b0, b1, b2, b3, b4, b5⟩) _ _ (heap_alloc_new wc.drew (.cells #[.int .i64 0, .int .i64 0, .int .i64 0, .int .i64 0, .int .i64 0, .int .i64 0] 187)))
  refine hK.out _ _ HS3.out (fun _ => trivial) ?_
  clear hK K
  try simp only [Act.put, List.setIfInBounds_toArray, List.set_cons_zero, List.set_cons_succ]
  refine wpAnyK_done (by kernel_rfl) ?_ _
  refine NoPanic.normal ?_
  have HROW3 := Lib.hid ((HS3.out.block (w.heap.size + 1) (by rw [HSZ.out]; omega)).trans HROW.out)
  have HW3 := Lib.hid (HW0.out.trans (HS3.out.mono HW0.out.size))
  generalize (wc.alloc (.cells #[.int .i64 0, .int .i64 0, .int .i64 0, .int .i64 0, .int .i64 0, .int .i64 0] 187)).drew.setRow wc.heap.size (Rw.cells ⟨b0, b1, b2, b3, b4, b5⟩) = w3 at *
  generalize wc.heap.size = b6 at *
  have c0 : w3.cell? ⟨b6, 0, none⟩ = some (.int .i64 b0) := by rw [cell_of_row _ _ _ _ _ _ HR3.out]; rfl
  have c1 : w3.cell? ⟨b6, 1, none⟩ = some (.int .i64 b1) := by rw [cell_of_row _ _ _ _ _ _ HR3.out]; rfl
  have c2 : w3.cell? ⟨b6, 2, none⟩ = some (.int .i64 b2) := by rw [cell_of_row _ _ _ _ _ _ HR3.out]; rfl
  have c3 : w3.cell? ⟨b6, 3, none⟩ = some (.int .i64 b3) := by rw [cell_of_row _ _ _ _ _ _ HR3.out]; rfl
  have c4 : w3.cell? ⟨b6, 4, none⟩ = some (.int .i64 b4) := by rw [cell_of_row _ _ _ _ _ _ HR3.out]; rfl
  have c5 : w3.cell? ⟨b6, 5, none⟩ = some (.int .i64 b5) := by rw [cell_of_row _ _ _ _ _ _ HR3.out]; rfl
  obtain ⟨w4, hw4⟩ : ∃ w4, w3.setRow (w.heap.size + 1) Rw.zero.cells = w4 := ⟨_, rfl⟩
  have HZ3 := Lib.hid (show w4.heap[w.heap.size + 1]? = some (.cells Rw.zero.cells 187 (0, 0)) from by rw [← hw4]; exact setRow_heap w3 (w.heap.size + 1) _ Rw.zero.cells _ _ HROW3.out)
  have HW4 := Lib.hid (show Below w.heap.size w w4 from by rw [← hw4]; exact below_setRow HW3.out (Nat.le_succ _) _)
  have HE4 := Lib.hid hw4
  have k0 : w4.cell? ⟨w.heap.size + 1, 0, none⟩ = some (.int .i64 0) := by rw [cell_of_row _ _ _ _ _ _ HZ3.out]; rfl
  have k1 : w4.cell? ⟨w.heap.size + 1, 1, none⟩ = some (.int .i64 0) := by rw [cell_of_row _ _ _ _ _ _ HZ3.out]; rfl
  have k2 : w4.cell? ⟨w.heap.size + 1, 2, none⟩ = some (.int .i64 0) := by rw [cell_of_row _ _ _ _ _ _ HZ3.out]; rfl
  have k3 : w4.cell? ⟨w.heap.size + 1, 3, none⟩ = some (.int .i64 0) := by rw [cell_of_row _ _ _ _ _ _ HZ3.out]; rfl
  have k4 : w4.cell? ⟨w.heap.size + 1, 4, none⟩ = some (.int .i64 0) := by rw [cell_of_row _ _ _ _ _ _ HZ3.out]; rfl
  have k5 : w4.cell? ⟨w.heap.size + 1, 5, none⟩ = some (.int .i64 0) := by rw [cell_of_row _ _ _ _ _ _ HZ3.out]; rfl
  clear hw4 HS HS2 HS3 HD0 HI HLB e16 e20 e24 e28 e32 e36 w16 w20 w24 w28 w32 w36 HU16 HU20 HU24 HU28 HU32 HU36 HSZ HDIR
  by_cases g4 : b0 < 65536 ∧ b1 ≤ 256 ∧ b2 ≤ 256 ∧ b0 + b1 ≤ 65536
  case neg =>
    have HRN := Lib.hid (show R = none from by
      rw [← HR.out]
      refine if_neg fun h => g4 ?_
      simp only [Rw.ok, Bool.and_eq_true, decide_eq_true_eq] at h
      exact ⟨h.1.1.1.1.1.1, h.1.1.1.1.1.2, h.1.1.1.1.2, h.1.1.1.2⟩)
    have hor : (65536 : Int) ≤ b0 ∨ ((b0 : Int) < 65536 ∧ (256 : Int) < b1) ∨ ((b0 : Int) < 65536 ∧ (b1 : Int) ≤ 256 ∧ (256 : Int) < b2) ∨ ((b0 : Int) < 65536 ∧ (b1 : Int) ≤ 256 ∧ (b2 : Int) ≤ 256 ∧ (65536 : Int) < (b0 : Int) + (b1 : Int)) := by omega
    clear g4 c3 c4 c5
    rcases hor with i1 | ⟨i1, i2⟩ | ⟨i1, i2, i3⟩ | ⟨i1, i2, i3, i4⟩
    all_goals
      go_wp2_with (first | (refine wpList_store_row rfl 187 _ _ rfl (w.heap.size + 1) Rw.zero.cells rfl rfl 187 Rw.zero.cells HROW3.out (Rw.info _) rfl (Rw.one _) ?_; rw [HE4.out]) | fail)
      refine bodyPost_ret (v := .tuple #[.agg Rw.zero.cells, .bool false]) (by simp [results, Tryz.results108, go_sem, Rw.cells, k0, k1, k2, k3, k4, k5]) rfl ⟨?_, HW4.out⟩
      rw [HRN.out]
      exact ⟨Rw.zero, rfl⟩
  obtain ⟨q1, hq1⟩ : ∃ q, 4 * b1 = q := ⟨_, rfl⟩
  obtain ⟨q2, hq2⟩ : ∃ q, 4 * b2 = q := ⟨_, rfl⟩
  obtain ⟨q3, hq3⟩ : ∃ q, 2 * b2 = q := ⟨_, rfl⟩
  have eq1 : (4 : Int) * (b1 : Int) = (q1 : Int) := by omega
  have eq2 : (4 : Int) * (b2 : Int) = (q2 : Int) := by omega
  have eq3 : (2 : Int) * (b2 : Int) = (q3 : Int) := by omega
  have HF1 := Lib.hid (fun W => rowInE_any A bs.length cap b3 q1 W (by omega) (by omega))
  have HF2 := Lib.hid (fun W => rowInE_any A bs.length cap b4 q2 W (by omega) (by omega))
  have HF3 := Lib.hid (fun W => rowInE_any A bs.length cap b5 q3 W (by omega) (by omega))
  have HRR : R = if inL bs.length b3 q1 && inL bs.length b4 q2 && inL bs.length b5 q3 then some ⟨b0, b1, b2, b3, b4, b5⟩ else none := by
    rw [← HR.out]
    obtain ⟨g1, g2, g3, g5⟩ := g4
    simp only [Rw.ok, g1, g2, g3, g5, decide_true, Bool.true_and, hq1, hq2, hq3]
  have i1 : decide ((65536 : Int) ≤ (b0 : Int)) = false := decide_eq_false (by omega)
  have i2 : decide ((256 : Int) < (b1 : Int)) = false := decide_eq_false (by omega)
  have i3 : decide ((256 : Int) < (b2 : Int)) = false := decide_eq_false (by omega)
  obtain ⟨s01, hs01⟩ : ∃ q, b0 + b1 = q := ⟨_, rfl⟩
  have es : (b0 : Int) + (b1 : Int) = (s01 : Int) := by omega
  have ws : IntKind.i64.wrap (s01 : Int) = (s01 : Int) := by rw [IntKind.wrap_i64]; omega
  have i4 : decide ((65536 : Int) < (s01 : Int)) = false := decide_eq_false (by omega)
  have wq1 : IntKind.i64.wrap (q1 : Int) = (q1 : Int) := by rw [IntKind.wrap_i64]; omega
  have wq2 : IntKind.i64.wrap (q2 : Int) = (q2 : Int) := by rw [IntKind.wrap_i64]; omega
  have wq3 : IntKind.i64.wrap (q3 : Int) = (q3 : Int) := by rw [IntKind.wrap_i64]; omega
  generalize inL bs.length b3 q1 = T1 at *
  generalize inL bs.length b4 q2 = T2 at *
  generalize inL bs.length b5 q3 = T3 at *
  clear g4 hq1 hq2 hq3 hs01
  go_wp2_with fail
  refine (HF1.out _).mono ?_
  rintro e w' ⟨rfl, rfl⟩
  cases T1
  · have HRN : R = none := HRR
    clear HRR HF2 HF3
    go_wp2_with (first | (refine wpList_store_row rfl 187 _ _ rfl (w.heap.size + 1) Rw.zero.cells rfl rfl 187 Rw.zero.cells HROW3.out (Rw.info _) rfl (Rw.one _) ?_; rw [HE4.out]) | fail)
    refine bodyPost_ret (v := .tuple #[.agg Rw.zero.cells, .bool false]) (by simp [results, Tryz.results108, go_sem, Rw.cells, k0, k1, k2, k3, k4, k5]) rfl ⟨?_, HW4.out⟩
    rw [HRN]
    exact ⟨Rw.zero, rfl⟩
  go_wp2_with fail
  refine (HF2.out _).mono ?_
  rintro e w' ⟨rfl, rfl⟩
  cases T2
  · have HRN : R = none := HRR
    clear HRR HF3
    go_wp2_with (first | (refine wpList_store_row rfl 187 _ _ rfl (w.heap.size + 1) Rw.zero.cells rfl rfl 187 Rw.zero.cells HROW3.out (Rw.info _) rfl (Rw.one _) ?_; rw [HE4.out]) | fail)
    refine bodyPost_ret (v := .tuple #[.agg Rw.zero.cells, .bool false]) (by simp [results, Tryz.results108, go_sem, Rw.cells, k0, k1, k2, k3, k4, k5]) rfl ⟨?_, HW4.out⟩
    rw [HRN]
    exact ⟨Rw.zero, rfl⟩
  go_wp2_with fail
  refine (HF3.out _).mono ?_
  rintro e w' ⟨rfl, rfl⟩
  cases T3
  · have HRN : R = none := HRR
    clear HRR
    go_wp2_with (first | (refine wpList_store_row rfl 187 _ _ rfl (w.heap.size + 1) Rw.zero.cells rfl rfl 187 Rw.zero.cells HROW3.out (Rw.info _) rfl (Rw.one _) ?_; rw [HE4.out]) | fail)
    refine bodyPost_ret (v := .tuple #[.agg Rw.zero.cells, .bool false]) (by simp [results, Tryz.results108, go_sem, Rw.cells, k0, k1, k2, k3, k4, k5]) rfl ⟨?_, HW4.out⟩
    rw [HRN]
    exact ⟨Rw.zero, rfl⟩
  have HRS : R = some ⟨b0, b1, b2, b3, b4, b5⟩ := HRR
  clear HRR
  obtain ⟨w5, hw5⟩ : ∃ w5, w3.setRow (w.heap.size + 1) (Rw.cells ⟨b0, b1, b2, b3, b4, b5⟩) = w5 := ⟨_, rfl⟩
  have HZ5 := Lib.hid (show w5.heap[w.heap.size + 1]? = some (.cells (Rw.cells ⟨b0, b1, b2, b3, b4, b5⟩) 187 (0, 0)) from by rw [← hw5]; exact setRow_heap w3 (w.heap.size + 1) _ (Rw.cells ⟨b0, b1, b2, b3, b4, b5⟩) _ _ HROW3.out)
  have HW5 := Lib.hid (show Below w.heap.size w w5 from by rw [← hw5]; exact below_setRow HW3.out (Nat.le_succ _) _)
  have HE5 := Lib.hid hw5
  clear hw5 k0 k1 k2 k3 k4 k5
  have k0 : w5.cell? ⟨w.heap.size + 1, 0, none⟩ = some (.int .i64 b0) := by rw [cell_of_row _ _ _ _ _ _ HZ5.out]; rfl
  have k1 : w5.cell? ⟨w.heap.size + 1, 1, none⟩ = some (.int .i64 b1) := by rw [cell_of_row _ _ _ _ _ _ HZ5.out]; rfl
  have k2 : w5.cell? ⟨w.heap.size + 1, 2, none⟩ = some (.int .i64 b2) := by rw [cell_of_row _ _ _ _ _ _ HZ5.out]; rfl
  have k3 : w5.cell? ⟨w.heap.size + 1, 3, none⟩ = some (.int .i64 b3) := by rw [cell_of_row _ _ _ _ _ _ HZ5.out]; rfl
  have k4 : w5.cell? ⟨w.heap.size + 1, 4, none⟩ = some (.int .i64 b4) := by rw [cell_of_row _ _ _ _ _ _ HZ5.out]; rfl
  have k5 : w5.cell? ⟨w.heap.size + 1, 5, none⟩ = some (.int .i64 b5) := by rw [cell_of_row _ _ _ _ _ _ HZ5.out]; rfl
  go_wp2_with (first | (refine wpList_store_row rfl 187 _ _ rfl (w.heap.size + 1) (Rw.cells ⟨b0, b1, b2, b3, b4, b5⟩) rfl rfl 187 Rw.zero.cells HROW3.out (Rw.info _) rfl (Rw.one _) ?_; rw [HE5.out]) | fail)
  refine bodyPost_ret (v := .tuple #[.agg (Rw.cells ⟨b0, b1, b2, b3, b4, b5⟩), .bool true]) (by simp [results, Tryz.results108, go_sem, Rw.cells, k0, k1, k2, k3, k4, k5]) rfl ⟨?_, HW5.out⟩
  rw [HRS]
  rfl
end Go.Proofs.YtplgdpjbkdagfaaGreat
