/- package exps: the functions. -/
import Derived.Test.YtbjabncefhgefaaExpA
import Derived.Test.YtbjabncefhgefaaAppTs2
import Derived.Laws.CopyOwn
namespace Go.Proofs.Ytbjabncefhgefaa
open Go.ChangeShapes Go.WideShapes Go.ChangeAt Go.RowKit
set_option linter.unusedVariables false
set_option linter.unusedSimpArgs false

theorem lt_of_row' {w : World} {b : Nat} {c : Obj} (h : w.heap[b]? = some c) : b < w.heap.size := by
  rcases Nat.lt_or_ge b w.heap.size with h' | h'
  · exact h'
  · rw [Array.getElem?_eq_none h'] at h; cases h
theorem step_store_row' {P : Program} {ops : Array Oper} {o : Oper} {a : Act} {w : World} {K : Act → World → Prop} {Q : Exit → Act → World → Prop} {E : Prop} (hgd : o.guard = none) (ty : TypeId) (x y : Operand) (ho : o.op = .store ty x y)
    (g : Nat) (cells : Array Value) (hx : a.eval x = .pointer (some ⟨g, 0, none⟩)) (hy : a.eval y = .agg cells)
    (t : TypeId) (old : Array Value) (hg : w.heap[g]? = some (.cells old t (0, 0))) (hi : (P.info? ty).map (·.size) = some cells.size)
    (hold : old.size = cells.size) (h1 : cells.all (·.oneCell') = true)
    (h : K (a.put o.dst undef) (w.setRow g cells)) : if Region.wanted o (yielded ops a.tmps) = true then Oper.wp P o a w K Q else E := by
  rw [if_pos (by simp [Region.wanted, hgd])]
  exact wp_store_row ty x y ho g cells hx hy t old hg hi hold h1 h

section
variable {α : Type} {C : α → List Value} {sz : Nat}
/-- make of a slice without elements, with room for some. -/
theorem wpList_makeT {P : Program} {w : World} {ops : Array Oper} {rest : List Oper} {o : Oper} {a : Act} {Q : Exit → Act → World → Prop} (hgd : o.guard = none) (l c : Operand) (t : TypeId) (ho : o.op = .makeSlice t l c)
    (base : Nat) (e : TypeId) (z : Value) (bytes : Nat) (ht : P.underlying t = some (.slice e)) (hinfo : (P.info? e).map (fun i => (i.zero, i.size, i.bytes)) = some (some z, sz, bytes))
    (kl kc : IntKind) (n : Nat) (hl : a.eval l = .int kl 0) (hc : a.eval c = .int kc n) (hb : bytes * n ≤ 281474976710656) (h63 : n ≤ maxLen) (hbase : base ≤ w.heap.size)
    (hK : ∀ w', OwnT C sz w' base e (.slice (some ⟨w.heap.size, 0, none⟩) 0 n) [] → Below w.heap.size w w' → wpList P ops Q rest (a.put o.dst (.slice (some ⟨w.heap.size, 0, none⟩) 0 n)) w') :
    wpList P ops Q (o :: rest) a w := by
  obtain ⟨i0, hi, hz0, hz1, hz2⟩ := info_parts hinfo
  obtain ⟨w', hr, hown, hg⟩ := run_make_own (P := P) w base t e i0 z sz ht hi hz0 hz1 kl kc n (by rw [hz2]; exact hb) h63 hbase
  refine wpList_plain hgd fun K hK' => ?_
  unfold Oper.wp execOp
  simp only [ho, hl, hc, Sem.run_bind, hr, Sem.run_pure, Result.andThen_ok]
  exact hK' _ _ (hK w' hown ⟨hg.os, hg.tape, hg.output, hg.size, fun k hk => hg.block k hk (by simp)⟩)
end

def gC (x : FnV) : List Value := [.int .i64 x.1, .string (txt x.2)]
theorem gC_len (x : FnV) : (gC x).length = 2 := rfl
theorem gC_one (x : FnV) : ∀ u ∈ gC x, u.oneCell' = true := by
  intro u hu
  simp [gC] at hu
  rcases hu with rfl | rfl <;> rfl
theorem infoFunc : (Try.prog.info? 37).map (fun i => (i.zero, i.size, i.bytes)) = some (some (.agg #[.int .i64 0, .string ByteArray.empty]), 2, 24) := by kernel_rfl

/-- The functions from the i-th on, with so many left. -/
def funcsL (b : List Nat) (rva size at' : Nat) : Nat → Nat → List FnV → Option (List FnV)
  | 0, _, acc => some acc
  | k + 1, i, acc => match readFn b rva size (numL (b.drop (at' + 4 * i)) 4) with
    | none => none
    | some f => funcsL b rva size at' k (i + 1) (acc ++ [f])

/-- What readFuncs tells. -/
def FuncsQ (w w' : World) (r : Option (List FnV)) (e : Ending) : Prop := match r with
  | none => e = .returned (.tuple #[.slice none 0 0, .bool false])
  | some l => ∃ A cap, e = .returned (.tuple #[.slice A l.length cap, .bool true]) ∧ OwnT gC 2 w' w.heap.size 37 (.slice A l.length cap) l

theorem funcCells (x : Nat) (t : List Nat) (w : World) : ∀ j u, (gC (x, t))[j]? = some u → (w.alloc (.cells #[.int .i64 x, .string (txt t)] 37)).cell? ⟨w.heap.size, j, none⟩ = some u := by
  intro j u hu
  rcases j with _ | _ | j
  · simp [gC] at hu; subst hu; simp [go_sem]
  · simp [gC] at hu; subst hu; simp [go_sem]
  · simp [gC] at hu

set_option maxRecDepth 100000 in
set_option maxHeartbeats 4000000 in
theorem readFuncs_any (A : Option Addr) (cap : Nat) (bs : List Nat) (rva size b0 b1 b2 b3 b4 b5 : Nat) (w : World) (hb : Lb bs) (hl : bs.length ≤ cap) (hc : cap ≤ 9223372036854775807) (hlen : bs.length ≤ 1099511627776) (hs : SlB w A bs.length (lF bs)) (hr : rva ≤ 9223372036854775807) (hz : size ≤ 9223372036854775807)
    (hn : b1 ≤ 256) (hin : b1 = 0 ∨ b3 + 4 * b1 ≤ bs.length) :
    Calls Try.prog 30 #[.slice A bs.length cap, .agg #[.int .i64 rva, .int .i64 size], .agg #[.int .i64 b0, .int .i64 b1, .int .i64 b2, .int .i64 b3, .int .i64 b4, .int .i64 b5]] w fun e w' => FuncsQ w w' (funcsL bs rva size b3 b1 0 []) e ∧ Below w.heap.size w w' := by
  have HS := Lib.hid (fun W (hW : Below w.heap.size w W) => SlB.below hs hW)
  have HLB := Lib.hid hb
  have HIN := Lib.hid hin
  have HLC := Lib.hid (And.intro hl (And.intro hc hlen))
  have HRZ := Lib.hid (And.intro hr hz)
  obtain ⟨R, hR⟩ : ∃ R, funcsL bs rva size b3 b1 0 [] = R := ⟨_, rfl⟩
  rw [hR]
  have HR := Lib.hid hR
  clear hR hs hin
  go_enter Try.func30, Try.ntmps30
  have HD := Lib.hid (show ((w.alloc (.cells #[.int .i64 rva, .int .i64 size] 26)).alloc (.cells #[.int .i64 b0, .int .i64 b1, .int .i64 b2, .int .i64 b3, .int .i64 b4, .int .i64 b5] 83)).heap[w.heap.size]? = some (.cells #[.int .i64 rva, .int .i64 size] 26 (0, 0)) from
    (Below.heap_alloc _ _ w.heap.size (by simp)).trans (heap_alloc_new w _))
  have HRW := Lib.hid (show ((w.alloc (.cells #[.int .i64 rva, .int .i64 size] 26)).alloc (.cells #[.int .i64 b0, .int .i64 b1, .int .i64 b2, .int .i64 b3, .int .i64 b4, .int .i64 b5] 83)).heap[w.heap.size + 1]? = some (.cells #[.int .i64 b0, .int .i64 b1, .int .i64 b2, .int .i64 b3, .int .i64 b4, .int .i64 b5] 83 (0, 0)) from by
    have h := heap_alloc_new (w.alloc (.cells #[.int .i64 rva, .int .i64 size] 26)) (.cells #[.int .i64 b0, .int .i64 b1, .int .i64 b2, .int .i64 b3, .int .i64 b4, .int .i64 b5] 83)
    rwa [show (w.alloc (.cells #[.int .i64 rva, .int .i64 size] 26)).heap.size = w.heap.size + 1 by simp] at h)
  have HW0 := Lib.hid (show Below w.heap.size w ((w.alloc (.cells #[.int .i64 rva, .int .i64 size] 26)).alloc (.cells #[.int .i64 b0, .int .i64 b1, .int .i64 b2, .int .i64 b3, .int .i64 b4, .int .i64 b5] 83)) from ((Below.refl w.heap.size w).alloc (Nat.le_refl _) _).alloc (by simp) _)
  have hsz : ((w.alloc (.cells #[.int .i64 rva, .int .i64 size] 26)).alloc (.cells #[.int .i64 b0, .int .i64 b1, .int .i64 b2, .int .i64 b3, .int .i64 b4, .int .i64 b5] 83)).heap.size = w.heap.size + 2 := by simp
  have HSZ := Lib.hid hsz
  have hM1 : 24 * b1 ≤ 281474976710656 := by omega
  have hM2 : b1 ≤ maxLen := by unfold maxLen; omega
  have HM1 := Lib.hid hM1
  have HM2 := Lib.hid hM2
  have HM3 := Lib.hid (show w.heap.size + 2 ≤ ((w.alloc (.cells #[.int .i64 rva, .int .i64 size] 26)).alloc (.cells #[.int .i64 b0, .int .i64 b1, .int .i64 b2, .int .i64 b3, .int .i64 b4, .int .i64 b5] 83)).heap.size from by rw [hsz]; exact Nat.le_refl _)
  clear hsz hM1 hM2
  go_upto_region 2 with (first
    | (refine wpList_makeT (C := gC) (sz := 2) rfl _ _ 29 rfl (w.heap.size + 2) 37 _ 24 rfl infoFunc .i64 .i64 b1 rfl rfl HM1.out HM2.out HM3.out ?_; intro w1 hown1 hw1; have HO1 := Lib.hid hown1; have HW1 := Lib.hid hw1; clear hown1 hw1)
    | fail)
  have HD1 := Lib.hid ((HW1.out.block w.heap.size (by rw [HSZ.out]; omega)).trans HD.out)
  have HRW1 := Lib.hid ((HW1.out.block (w.heap.size + 1) (by rw [HSZ.out]; omega)).trans HRW.out)
  have HB1 := Lib.hid (HW0.out.trans (HW1.out.mono HW0.out.size))
  have hO1 := HO1.out
  rw [HSZ.out] at hO1
  have HOO := Lib.hid hO1
  clear HD HRW HW0 HM1 HM2 HM3 HO1 HW1 HSZ hO1
  have hc1 : w1.cell? ⟨w.heap.size + 1, 1, none⟩ = some (.int .i64 b1) := by rw [cell_of_row _ _ _ _ _ _ HRW1.out]; rfl
  go_wp2_with fail
  go_loopw [8, 17] (fun v8 v17 wr => ∃ (i k : Nat) (l : List FnV) (A' : Option Addr) (c' : Nat), i + k = b1 ∧ l.length = i ∧ v17 = .int .i64 i ∧ v8 = .slice A' i c' ∧ OwnT gC 2 wr (w.heap.size + 2) 37 (.slice A' i c') l ∧ Below w.heap.size w wr ∧ wr.heap[w.heap.size]? = some (.cells #[.int .i64 rva, .int .i64 size] 26 (0, 0)) ∧ wr.heap[w.heap.size + 1]? = some (.cells #[.int .i64 b0, .int .i64 b1, .int .i64 b2, .int .i64 b3, .int .i64 b4, .int .i64 b5] 83 (0, 0)) ∧ funcsL bs rva size b3 k i l = R) (fun _ v17 _ => b1 - (intOf v17).toNat)
  case atStart => exact ⟨0, b1, [], _, _, by omega, rfl, rfl, rfl, HOO.out, HB1.out, HD1.out, HRW1.out, HR.out⟩
  case round =>
    obtain ⟨i, k, l, A', c', hik, hli, rfl, rfl, hown, hbel, hdr, hrr, hR⟩ := hrel
    have HO := Lib.hid hown
    have HBW := Lib.hid hbel
    have HDR := Lib.hid hdr
    have HRR := Lib.hid hrr
    have HRE := Lib.hid hR
    have HLI := Lib.hid hli
    clear hown hbel hdr hrr hR hli
    by_cases hlt : i < b1
    · obtain ⟨k, rfl⟩ : ∃ q, k = q + 1 := ⟨k - 1, by omega⟩
      obtain ⟨m4, hm4⟩ : ∃ m, 4 * i = m := ⟨_, rfl⟩
      obtain ⟨o, ho⟩ : ∃ o, b3 + m4 = o := ⟨_, rfl⟩
      have hob : o + 4 ≤ bs.length := by have := HIN.out; omega
      have em : (4 : Int) * (i : Int) = (m4 : Int) := by omega
      have wm : IntKind.i64.wrap (m4 : Int) = (m4 : Int) := by rw [IntKind.wrap_i64]; omega
      have eo : (b3 : Int) + (m4 : Int) = (o : Int) := by omega
      have wo : IntKind.i64.wrap (o : Int) = (o : Int) := by have := HLC.out; rw [IntKind.wrap_i64]; omega
      have HU := Lib.hid (fun W (hW : Below w.heap.size w W) => u32e_any A cap bs o W (by have := HLC.out; omega) HLB.out hob (HS.out W hW))
      have hv := numL_lt (HLB.out.drop o) 4
      have hre := HRE.out
      simp only [funcsL] at hre
      rw [hm4, ho] at hre
      obtain ⟨v, hvv⟩ : ∃ v, numL (bs.drop o) 4 = v := ⟨_, rfl⟩
      rw [hvv] at HU hv hre
      rw [show (256 : Nat) ^ 4 = 4294967296 from rfl] at hv
      have HF := Lib.hid (fun W (hW : Below w.heap.size w W) => readFn_any A cap bs rva size v W HLB.out HLC.out.1 (by have := HLC.out; omega) (HS.out W hW) HRZ.out.1 HRZ.out.2 hv)
      have HRE2 := Lib.hid hre
      have HC := Lib.hid (fun W (hW : Below wr.heap.size wr W) => show W.cell? ⟨w.heap.size, 0, none⟩ = some (.int .i64 rva) ∧ W.cell? ⟨w.heap.size, 1, none⟩ = some (.int .i64 size) ∧ W.cell? ⟨w.heap.size + 1, 3, none⟩ = some (.int .i64 b3) from by
        have h1 := (hW.block w.heap.size (lt_of_row' HDR.out)).trans HDR.out
        have h2 := (hW.block (w.heap.size + 1) (lt_of_row' HRR.out)).trans HRR.out
        refine ⟨?_, ?_, ?_⟩
        · rw [cell_of_row _ _ _ _ _ _ h1]; rfl
        · rw [cell_of_row _ _ _ _ _ _ h1]; rfl
        · rw [cell_of_row _ _ _ _ _ _ h2]; rfl)
      clear hre hvv hm4 ho hv hob
      go_upto_region 5 with (fail)
      obtain ⟨B, HBE0⟩ : ∃ q, wr.heap.size = q := ⟨_, rfl⟩
      have HS := Lib.hid (show Below B wr wr.drew from by rw [← HBE0]; exact (Below.refl _ _).drew)
      have HBE := Lib.hid HBE0
      clear HBE0
      refine wp_region_noPanic ?_
      refine wp_region_K (fun W => Below B wr W) (fun _ => True) 99 (by kernel_rfl) ?_
      refine wpAnyK_take (i := 0) (oi := ?_) (v := ?_) ?_ (by kernel_rfl) (by kernel_rfl) (by kernel_rfl) (fun _ _ _ h => h) (by decide) ?_ HS.out (fun _ => trivial) ?_
      rotate_left 2
      · (simp only [List.getElem?_toArray, List.getElem?_cons_succ, List.getElem?_cons_zero]; rfl)
      · (first | exact Or.inr ⟨by rfl, rfl⟩ | (refine Or.inl ⟨by rfl, ?_⟩; intro W hSw; clear hSw; go_simp; try with_reducible rfl))
      try simp only [Act.put, List.setIfInBounds_toArray, List.set_cons_zero, List.set_cons_succ]
      refine wpAnyK_take (i := 1) (oi := ?_) (v := ?_) ?_ (by kernel_rfl) (by kernel_rfl) (by kernel_rfl) (fun _ _ _ h => h) (by decide) ?_ HS.out (fun _ => trivial) ?_
      rotate_left 2
      · (simp only [List.getElem?_toArray, List.getElem?_cons_succ, List.getElem?_cons_zero]; rfl)
      · (first | exact Or.inr ⟨by rfl, rfl⟩ | (refine Or.inl ⟨by rfl, ?_⟩; intro W hSw; obtain ⟨hq0, hq1, hq2⟩ := HC.out W (by rw [HBE.out]; exact hSw); clear hSw; go_simp; try with_reducible rfl))
      try simp only [Act.put, List.setIfInBounds_toArray, List.set_cons_zero, List.set_cons_succ]
      refine wpAnyK_take (i := 2) (oi := ?_) (v := ?_) ?_ (by kernel_rfl) (by kernel_rfl) (by kernel_rfl) (fun _ _ _ h => h) (by decide) ?_ HS.out (fun _ => trivial) ?_
      rotate_left 2
      · (simp only [List.getElem?_toArray, List.getElem?_cons_succ, List.getElem?_cons_zero]; rfl)
      · (first | exact Or.inr ⟨by rfl, rfl⟩ | (refine Or.inl ⟨by rfl, ?_⟩; intro W hSw; clear hSw; go_simp; try with_reducible rfl))
      try simp only [Act.put, List.setIfInBounds_toArray, List.set_cons_zero, List.set_cons_succ]
      refine wpAnyK_take (i := 3) (oi := ?_) (v := ?_) ?_ (by kernel_rfl) (by kernel_rfl) (by kernel_rfl) (fun _ _ _ h => h) (by decide) ?_ HS.out (fun _ => trivial) ?_
      rotate_left 2
      · (simp only [List.getElem?_toArray, List.getElem?_cons_succ, List.getElem?_cons_zero]; rfl)
      · (first | exact Or.inr ⟨by rfl, rfl⟩ | (refine Or.inl ⟨by rfl, ?_⟩; intro W hSw; clear hSw; go_simp; try with_reducible rfl))
      try simp only [Act.put, List.setIfInBounds_toArray, List.set_cons_zero, List.set_cons_succ]
      refine wpAnyK_take (i := 4) (oi := ?_) (v := ?_) ?_ (by kernel_rfl) (by kernel_rfl) (by kernel_rfl) (fun _ _ _ h => h) (by decide) ?_ HS.out (fun _ => trivial) ?_
      rotate_left 2
      · (simp only [List.getElem?_toArray, List.getElem?_cons_succ, List.getElem?_cons_zero]; rfl)
      · (first | exact Or.inr ⟨by rfl, rfl⟩ | (refine Or.inl ⟨by rfl, ?_⟩; intro W hSw; obtain ⟨hq0, hq1, hq2⟩ := HC.out W (by rw [HBE.out]; exact hSw); clear hSw; go_simp; try with_reducible rfl))
      try simp only [Act.put, List.setIfInBounds_toArray, List.set_cons_zero, List.set_cons_succ]
      refine wpAnyK_take (i := 5) (oi := ?_) (v := ?_) ?_ (by kernel_rfl) (by kernel_rfl) (by kernel_rfl) (fun _ _ _ h => h) (by decide) ?_ HS.out (fun _ => trivial) ?_
      rotate_left 2
      · (simp only [List.getElem?_toArray, List.getElem?_cons_succ, List.getElem?_cons_zero]; rfl)
      · (first | exact Or.inr ⟨by rfl, rfl⟩ | (refine Or.inl ⟨by rfl, ?_⟩; intro W hSw; clear hSw; go_simp; try with_reducible rfl))
      try simp only [Act.put, List.setIfInBounds_toArray, List.set_cons_zero, List.set_cons_succ]
      refine wpAnyK_take (i := 6) (oi := ?_) (v := ?_) ?_ (by kernel_rfl) (by kernel_rfl) (by kernel_rfl) (fun _ _ _ h => h) (by decide) ?_ HS.out (fun _ => trivial) ?_
      rotate_left 2
      · (simp only [List.getElem?_toArray, List.getElem?_cons_succ, List.getElem?_cons_zero]; rfl)
      · (first | exact Or.inr ⟨by rfl, rfl⟩ | (refine Or.inl ⟨by rfl, ?_⟩; intro W hSw; clear hSw; go_simp; try with_reducible rfl))
      try simp only [Act.put, List.setIfInBounds_toArray, List.set_cons_zero, List.set_cons_succ]
      refine wpAnyK_take (i := 7) (oi := ?_) (v := ?_) ?_ (by kernel_rfl) (by kernel_rfl) (by kernel_rfl) (fun _ _ _ h => h) (by decide) ?_ HS.out (fun _ => trivial) ?_
      rotate_left 2
      · (simp only [List.getElem?_toArray, List.getElem?_cons_succ, List.getElem?_cons_zero]; rfl)
      · (first | exact Or.inr ⟨by rfl, rfl⟩ | (refine Or.inl ⟨by rfl, ?_⟩; intro W hSw; clear hSw; go_simp; try with_reducible rfl))
      try simp only [Act.put, List.setIfInBounds_toArray, List.set_cons_zero, List.set_cons_succ]
      refine wpAnyK_takeQ (i := 8) (oi := ?_) (v := .int .i64 v) ?_ (by kernel_rfl) (by kernel_rfl) (by kernel_rfl) (fun _ _ _ h => h) (by decide) ?_ HS.out (fun _ => trivial) ?_
      rotate_left 1
      · (simp only [List.getElem?_toArray, List.getElem?_cons_succ, List.getElem?_cons_zero]; rfl)
      · refine ⟨by rfl, fun W hW => ⟨45, #[.slice A bs.length cap, .int .i64 o], ?_, HU.out W (HBW.out.trans (hW.mono (by have := HBW.out.size; rw [← HBE.out]; exact this)))⟩⟩
        first | kernel_rfl | (go_simp; done) | rfl
      try simp only [Act.put, List.setIfInBounds_toArray, List.set_cons_zero, List.set_cons_succ]
      have HBB := Lib.hid (show w.heap.size ≤ B from by rw [← HBE.out]; exact HBW.out.size)
      have HBL := Lib.hid (fun W (hW : Below B wr W) => show B ≤ W.heap.size from by rw [← HBE.out]; exact hW.size)
      have HBWW := Lib.hid (fun W (hW : Below B wr W) => HBW.out.trans (hW.mono HBB.out))
      have HOB := Lib.hid (fun W (hW : Below B wr W) => HO.out.below (by rw [HBE.out]; exact hW))
      have HDB := Lib.hid (fun W (hW : Below B wr W) => (hW.block w.heap.size (by rw [← HBE.out]; exact lt_of_row' HDR.out)).trans HDR.out)
      have HRB := Lib.hid (fun W (hW : Below B wr W) => (hW.block (w.heap.size + 1) (by rw [← HBE.out]; exact lt_of_row' HRR.out)).trans HRR.out)
      refine wpAnyK_two (i := 9) (j := 13) (o := ?_) (o2 := ?_) (by kernel_rfl) ?_ ?_ (fun K hK => ?callA) (fun K hK => ?allocA)
      rotate_left 2
      · (simp only [List.getElem?_toArray, List.getElem?_cons_succ, List.getElem?_cons_zero]; rfl)
      · (simp only [List.getElem?_toArray, List.getElem?_cons_succ, List.getElem?_cons_zero]; rfl)
      case' callA =>
        go_simp
        go_at_call 47
        refine (HF.out _ (HBWW.out _ HS.out)).mono ?_
        rintro e w2 ⟨⟨x, S, ok, rfl, hq1, hq2⟩, hw2⟩
        have HS2 := Lib.hid (HS.out.trans (hw2.mono (HBL.out _ HS.out)))
        clear hw2
        refine hK.out _ _ HS2.out (fun _ => trivial) ?_
        clear hK K
        try simp only [Act.put, List.setIfInBounds_toArray, List.set_cons_zero, List.set_cons_succ]
        refine wpAnyK_take (i := 10) (oi := ?_) (v := ?_) ?_ (by kernel_rfl) (by kernel_rfl) (by kernel_rfl) (fun _ _ _ h => h) (by decide) ?_ HS2.out (fun _ => trivial) ?_
        rotate_left 2
        · (simp only [List.getElem?_toArray, List.getElem?_cons_succ, List.getElem?_cons_zero]; rfl)
        · (first | exact Or.inr ⟨by rfl, rfl⟩ | (refine Or.inl ⟨by rfl, ?_⟩; intro W hSw; clear hSw; go_simp; try with_reducible rfl))
        try simp only [Act.put, List.setIfInBounds_toArray, List.set_cons_zero, List.set_cons_succ]
        refine wpAnyK_take (i := 11) (oi := ?_) (v := ?_) ?_ (by kernel_rfl) (by kernel_rfl) (by kernel_rfl) (fun _ _ _ h => h) (by decide) ?_ HS2.out (fun _ => trivial) ?_
        rotate_left 2
        · (simp only [List.getElem?_toArray, List.getElem?_cons_succ, List.getElem?_cons_zero]; rfl)
        · (first | exact Or.inr ⟨by rfl, rfl⟩ | (refine Or.inl ⟨by rfl, ?_⟩; intro W hSw; clear hSw; go_simp; try with_reducible rfl))
        try simp only [Act.put, List.setIfInBounds_toArray, List.set_cons_zero, List.set_cons_succ]
        refine wpAnyK_take (i := 12) (oi := ?_) (v := ?_) ?_ (by kernel_rfl) (by kernel_rfl) (by kernel_rfl) (fun _ _ _ h => h) (by decide) ?_ HS2.out (fun _ => trivial) ?_
        rotate_left 2
        · (simp only [List.getElem?_toArray, List.getElem?_cons_succ, List.getElem?_cons_zero]; rfl)
        · (first | exact Or.inr ⟨by rfl, rfl⟩ | (refine Or.inl ⟨by rfl, ?_⟩; intro W hSw; clear hSw; go_simp; try with_reducible rfl))
        try simp only [Act.put, List.setIfInBounds_toArray, List.set_cons_zero, List.set_cons_succ]
        refine wpAnyK_one (i := 13) (o := ?_) (by kernel_rfl) ?_ (fun K hK => ?_)
        rotate_left 1
        · (simp only [List.getElem?_toArray, List.getElem?_cons_succ, List.getElem?_cons_zero]; rfl)
        go_simp
        have HS3 := Lib.hid (HS2.out.alloc (HBL.out _ HS2.out) (.cells #[.int .i64 0, .string ⟨#[]⟩] 37))
        have HZ3 := Lib.hid (heap_alloc_new w2 (.cells #[.int .i64 0, .string ⟨#[]⟩] 37))
        have HG3 := Lib.hid (HBL.out _ HS2.out)
        refine hK.out _ _ HS3.out (fun _ => trivial) ?_
        clear hK K
        try simp only [Act.put, List.setIfInBounds_toArray, List.set_cons_zero, List.set_cons_succ]
        generalize w2.alloc (.cells #[.int .i64 0, .string ⟨#[]⟩] 37) = w3 at *
        generalize w2.heap.size = b10 at *
      case' allocA =>
        go_simp
        have HS2 := Lib.hid (show Below B wr (wr.alloc (.cells #[.int .i64 0, .string ⟨#[]⟩] 37)).drew from HS.out.alloc (HBL.out _ HS.out) (.cells #[.int .i64 0, .string ⟨#[]⟩] 37))
        have HZ2 := Lib.hid (show (wr.alloc (.cells #[.int .i64 0, .string ⟨#[]⟩] 37)).drew.heap[wr.heap.size]? = some (.cells #[.int .i64 0, .string ⟨#[]⟩] 37 (0, 0)) from heap_alloc_new wr (.cells #[.int .i64 0, .string ⟨#[]⟩] 37))
        have HG3 := Lib.hid (show B ≤ wr.heap.size from HBL.out _ (Below.refl _ _))
        refine hK.out _ _ HS2.out (fun _ => trivial) ?_
        clear hK K
        try simp only [Act.put, List.setIfInBounds_toArray, List.set_cons_zero, List.set_cons_succ]
        generalize (wr.alloc (.cells #[.int .i64 0, .string ⟨#[]⟩] 37)).drew = w2 at *
        generalize wr.heap.size = b10 at *
        refine wpAnyK_one (i := 9) (o := ?_) (by kernel_rfl) ?_ (fun K hK => ?_)
        rotate_left 1
        · (simp only [List.getElem?_toArray, List.getElem?_cons_succ, List.getElem?_cons_zero]; rfl)
        go_simp
        go_at_call 47
        refine (HF.out _ (HBWW.out _ HS2.out)).mono ?_
        rintro e w3 ⟨⟨x, S, ok, rfl, hq1, hq2⟩, hw3⟩
        have HS3 := Lib.hid (HS2.out.trans (hw3.mono (HBL.out _ HS2.out)))
        have HZ3 := Lib.hid ((hw3.block b10 (lt_of_row' HZ2.out)).trans HZ2.out)
        clear hw3
        refine hK.out _ _ HS3.out (fun _ => trivial) ?_
        clear hK K
        try simp only [Act.put, List.setIfInBounds_toArray, List.set_cons_zero, List.set_cons_succ]
        refine wpAnyK_take (i := 10) (oi := ?_) (v := ?_) ?_ (by kernel_rfl) (by kernel_rfl) (by kernel_rfl) (fun _ _ _ h => h) (by decide) ?_ HS3.out (fun _ => trivial) ?_
        rotate_left 2
        · (simp only [List.getElem?_toArray, List.getElem?_cons_succ, List.getElem?_cons_zero]; rfl)
        · (first | exact Or.inr ⟨by rfl, rfl⟩ | (refine Or.inl ⟨by rfl, ?_⟩; intro W hSw; clear hSw; go_simp; try with_reducible rfl))
        try simp only [Act.put, List.setIfInBounds_toArray, List.set_cons_zero, List.set_cons_succ]
        refine wpAnyK_take (i := 11) (oi := ?_) (v := ?_) ?_ (by kernel_rfl) (by kernel_rfl) (by kernel_rfl) (fun _ _ _ h => h) (by decide) ?_ HS3.out (fun _ => trivial) ?_
        rotate_left 2
        · (simp only [List.getElem?_toArray, List.getElem?_cons_succ, List.getElem?_cons_zero]; rfl)
        · (first | exact Or.inr ⟨by rfl, rfl⟩ | (refine Or.inl ⟨by rfl, ?_⟩; intro W hSw; clear hSw; go_simp; try with_reducible rfl))
        try simp only [Act.put, List.setIfInBounds_toArray, List.set_cons_zero, List.set_cons_succ]
        refine wpAnyK_take (i := 12) (oi := ?_) (v := ?_) ?_ (by kernel_rfl) (by kernel_rfl) (by kernel_rfl) (fun _ _ _ h => h) (by decide) ?_ HS3.out (fun _ => trivial) ?_
        rotate_left 2
        · (simp only [List.getElem?_toArray, List.getElem?_cons_succ, List.getElem?_cons_zero]; rfl)
        · (first | exact Or.inr ⟨by rfl, rfl⟩ | (refine Or.inl ⟨by rfl, ?_⟩; intro W hSw; clear hSw; go_simp; try with_reducible rfl))
        try simp only [Act.put, List.setIfInBounds_toArray, List.set_cons_zero, List.set_cons_succ]
      all_goals
        refine wpAnyK_one (i := 14) (o := ?_) (by kernel_rfl) ?_ (fun K hK => ?_)
        rotate_left 1
        · (simp only [List.getElem?_toArray, List.getElem?_cons_succ, List.getElem?_cons_zero]; rfl)
        refine step_store_row' rfl 37 _ _ rfl b10 #[.int .i64 x, .string S] ?_ ?_ 37 #[.int .i64 0, .string ⟨#[]⟩] HZ3.out (by kernel_rfl) rfl (by simp [Value.oneCell']) ?_
        · first | rfl | simp [Act.eval]
        · first | rfl | simp [Act.eval]
        have HS4 := Lib.hid (below_setRow HS3.out HG3.out #[.int .i64 x, .string S])
        have HR4 := Lib.hid (setRow_heap w3 b10 _ #[.int .i64 x, .string S] _ _ HZ3.out)
        refine hK.out _ _ HS4.out (fun _ => trivial) ?_
        clear hK K
        try simp only [Act.put, List.setIfInBounds_toArray, List.set_cons_zero, List.set_cons_succ]
        refine wpAnyK_one (i := 15) (o := ?_) (by kernel_rfl) ?_ (fun K hK => ?_)
        rotate_left 1
        · (simp only [List.getElem?_toArray, List.getElem?_cons_succ, List.getElem?_cons_zero]; rfl)
        go_simp
        refine hK.out _ _ HS4.out (fun _ => trivial) ?_
        clear hK K
        try simp only [Act.put, List.setIfInBounds_toArray, List.set_cons_zero, List.set_cons_succ]
        refine wpAnyK_done (by kernel_rfl) ?_ _
        refine NoPanic.normal ?_
        generalize w3.setRow b10 #[.int .i64 x, .string S] = w7 at *
        rcases hrd : readFn bs rva size v with _ | f
        · obtain rfl := hq1 hrd
          have hre := HRE2.out
          rw [hrd] at hre
          simp only at hre
          subst hre
          clear hq1 hq2 hrd
          go_wp2_with fail
          go_ret2
          exact ⟨rfl, HBWW.out _ HS4.out⟩
        · obtain ⟨fx, t⟩ := f
          obtain ⟨rfl, rfl, rfl⟩ := hq2 _ hrd
          have hre := HRE2.out
          rw [hrd] at hre
          simp only at hre HR4 ⊢
          have HRE3 := Lib.hid hre
          clear hq1 hq2 hrd hre
          have c0 : w7.cell? ⟨b10, 0, none⟩ = some (.int .i64 x) := by rw [cell_of_row _ _ _ _ _ _ HR4.out]; rfl
          have c1 : w7.cell? ⟨b10, 1, none⟩ = some (.string (txt t)) := by rw [cell_of_row _ _ _ _ _ _ HR4.out]; rfl
          have HA1 := Lib.hid ((HOB.out w7 HS4.out).alloc (.cells #[.int .i64 x, .string (txt t)] 37))
          have HY1 := Lib.hid (funcCells x t w7)
          have HB7 := Lib.hid (HBWW.out _ HS4.out)
          have HB8 := Lib.hid (HB7.out.alloc HB7.out.size (.cells #[.int .i64 x, .string (txt t)] 37))
          have HD8 := Lib.hid (show (w7.alloc (.cells #[.int .i64 x, .string (txt t)] 37)).heap[w.heap.size]? = _ from (Below.heap_alloc _ _ _ (lt_of_row' (HDB.out _ HS4.out))).trans (HDB.out _ HS4.out))
          have HR8 := Lib.hid (show (w7.alloc (.cells #[.int .i64 x, .string (txt t)] 37)).heap[w.heap.size + 1]? = _ from (Below.heap_alloc _ _ _ (lt_of_row' (HRB.out _ HS4.out))).trans (HRB.out _ HS4.out))
          have H3 := Lib.hid (show w.heap.size + 2 ≤ (w7.alloc (.cells #[.int .i64 x, .string (txt t)] 37)).heap.size from lt_of_row' HR8.out)
          have H4 := Lib.hid (show l.length + 1 ≤ maxLen from by rw [HLI.out]; unfold maxLen; omega)
          have H5 := Lib.hid (show (l.length + 1) * 24 ≤ 140737488355328 from by rw [HLI.out]; omega)
          have hll : l.length < 256 := by have := HLI.out; omega
          have hll2 : l.length + 1 ≤ b1 := by have := HLI.out; omega
          rw [← HLI.out] at HA1 ⊢
          go_wp2_with (first
            | (at_builtin; refine wpList_appT rfl (.tmp 35) (.tmp 37) 29 rfl (w.heap.size + 2) 37 _ 24 rfl infoFunc rfl (by omega) gC_len gC_one _ l rfl HA1.out w7.heap.size 1 rfl (x, t) HY1.out H4.out H5.out H3.out ?_; intro g5 cap5 w8 hown5 hg5 hat5)
            | fail)
          have HB9 := Lib.hid (HA1.out.grew HB8.out (by omega) HB8.out.size hg5)
          have HD9 := Lib.hid ((hg5.block w.heap.size (lt_of_row' HD8.out) (fun h => by have := (HA1.out.lt _ h.symm).1; omega)).trans HD8.out)
          have HR9 := Lib.hid ((hg5.block (w.heap.size + 1) (lt_of_row' HR8.out) (fun h => by have := (HA1.out.lt _ h.symm).1; omega)).trans HR8.out)
          have HO9 := Lib.hid hown5
          clear hown5 hg5 hat5 c0 c1
          go_roundw
          case rel => exact ⟨l.length + 1, k, l ++ [(x, t)], _, cap5, by have := HLI.out; omega, by simp, by go_num, rfl, HO9.out, HB9.out, HD9.out, HR9.out, by rw [HLI.out]; exact HRE3.out⟩
          case measure => simp [intOf]; have := HLI.out; omega
    · obtain rfl : k = 0 := by omega
      have hre := HRE.out
      simp only [funcsL] at hre
      subst hre
      go_wp2_with fail
      go_ret2
      refine ⟨⟨A', c', ?_, ?_⟩, HBW.out⟩
      · rw [HLI.out]; rfl
      · rw [HLI.out]; exact Joins.ownsRow_le HO.out (by omega)
end Go.Proofs.Ytbjabncefhgefaa
