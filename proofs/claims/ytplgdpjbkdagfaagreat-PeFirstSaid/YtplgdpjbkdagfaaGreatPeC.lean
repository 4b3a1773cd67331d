/- package pe: Parse, where there is no head. -/
import Derived.Test.YtplgdpjbkdagfaaGreatPeB
import Derived.Test.YtplgdpjbkdagfaaGreatHdrN
namespace Go.Proofs.YtplgdpjbkdagfaaGreat
open Go.ChangeShapes Go.WideShapes Go.ChangeAt Go.RowKit
set_option linter.unusedVariables false
set_option linter.unusedSimpArgs false
set_option maxRecDepth 100000

/-- No image. -/
def peZ : PeV := ⟨fun j => if j = 0 then .int .u64 0 else if j = 38 then .slice none 0 0 else .int .i64 0, .slice none 0 0, .int .i64 0, .slice none 0 0, .slice none 0 0, .slice none 0 0, .slice none 0 0, .slice none 0 0, .slice none 0 0, .bool false, .int .i64 0, .slice none 0 0⟩
/-- An image's cells. -/
def peC (x : PeV) : Array Value := ((List.range 50).map (peF x)).toArray
theorem zero_pe : (#[.int .u64 0, .int .i64 0, .int .i64 0, .int .i64 0, .int .i64 0, .int .i64 0, .int .i64 0, .int .i64 0, .int .i64 0, .int .i64 0, .int .i64 0, .int .i64 0, .int .i64 0, .int .i64 0, .int .i64 0, .int .i64 0, .int .i64 0, .int .i64 0, .int .i64 0, .int .i64 0, .int .i64 0, .int .i64 0, .int .i64 0, .int .i64 0, .int .i64 0, .int .i64 0, .int .i64 0, .int .i64 0, .int .i64 0, .int .i64 0, .int .i64 0, .int .i64 0, .int .i64 0, .int .i64 0, .int .i64 0, .int .i64 0, .int .i64 0, .int .i64 0, .slice none 0 0, .slice none 0 0, .int .i64 0, .slice none 0 0, .slice none 0 0, .slice none 0 0, .slice none 0 0, .slice none 0 0, .slice none 0 0, .bool false, .int .i64 0, .slice none 0 0] : Array Value) = peC peZ := by kernel_rfl
theorem peC_size (x : PeV) : (peC x).size = 50 := by simp [peC]
theorem peC_cell (x : PeV) {j : Nat} (h : j < 50) : (peC x)[j]? = some (peF x j) := by simp [peC, h]
theorem peZ_one : (peC peZ).all (·.oneCell') = true := by kernel_rfl
/-- A head's cells, and its image's bytes: the rest is empty. -/
def pe0 (hd : Nat → Value) (img : Value) : PeV := { peZ with hd := hd, img := img }
theorem built_pe0 : Tryz.prog.built 50 [] = some (peC peZ) := by kernel_rfl
theorem built_pe (hd : Nat → Value) (p : Option Addr) (n c : Nat) : Tryz.prog.built 50 [(0, .agg ((List.range 39).map hd).toArray), (1, .slice p n c)] = some (peC (pe0 hd (.slice p n c))) := by kernel_rfl

set_option maxHeartbeats 4000000 in
theorem peparse_err (sl : Value) (er : Int) (he : er ≠ 0) (w : World) (hc : ∀ W, Below w.heap.size w W → Calls Tryz.prog 23 #[sl] W fun x u => (∃ cs, x = .returned (.tuple #[.agg cs, .int .i64 er]) ∧ HeadV cs noHead (.slice none 0 0)) ∧ Below W.heap.size W u) :
    Calls Tryz.prog 11 #[sl] w fun x u => x = .returned (.tuple #[.agg (peC peZ), .int .i64 er]) ∧ Below w.heap.size w u := by
  have HC := Lib.hid hc
  have HB0 := Lib.hid ((Below.refl w.heap.size w).alloc (Nat.le_refl _) (.cells (peC peZ) 50))
  have hZ := heap_alloc_new w (.cells (peC peZ) 50)
  have hs1 : (w.alloc (.cells (peC peZ) 50)).heap.size = w.heap.size + 1 := by simp
  have e1 : (er != 0) = true := by simpa using he
  clear hc
  go_enter Tryz.func11, Tryz.ntmps11
  go_wp2_with fail
  --A1
  rw [zero_pe]
  generalize w.alloc (.cells (peC peZ) 50) = w1 at hZ HB0 hs1 ⊢
  refine (HC.out w1 HB0.out).mono ?_
  rintro e w2 ⟨⟨cs, rfl, hv⟩, hb⟩
  have hZ2 := (hb.block w.heap.size (by omega)).trans hZ
  have HB2 := Lib.hid (HB0.out.trans (hb.mono (by omega)))
  have hlt : w.heap.size < w2.heap.size := by have := hb.size; omega
  have hone := hv.one rfl
  have hcz := hv.size
  clear hZ hb hv HB0 hs1 HC
  --A2
  have hsz : (Tryz.prog.info? 41).map (·.size) = some cs.size := by rw [hcz]; kernel_rfl
  have hsz2 : (headC 0 0 0 0 0 0).size = cs.size := by rw [hcz]; kernel_rfl
  have hZ3 := (setRow_other (w2.alloc (.cells (headC 0 0 0 0 0 0) 41)) w2.heap.size w.heap.size cs (by omega)).trans ((heap_alloc_old w2 (.cells (headC 0 0 0 0 0 0) 41) hlt).trans hZ2)
  have HB3 := Lib.hid (below_setRow (HB2.out.alloc HB2.out.size (.cells (headC 0 0 0 0 0 0) 41)) HB2.out.size cs)
  have HZ3 := Lib.hid hZ3
  clear hcz hZ2 HB2 hlt hZ3
  go_wp2_with (first
    | (refine wpList_store_row rfl 41 (.tmp 4) (.tmp 11) rfl w2.heap.size cs rfl rfl 41 (headC 0 0 0 0 0 0) (heap_alloc_new _ _) hsz hsz2 hone ?_; rw [zero_head]; generalize (w2.alloc (.cells (headC 0 0 0 0 0 0) 41)).setRow w2.heap.size cs = w3 at *)
    | (refine wpList_store_row rfl 50 (.tmp 2) (.tmp 15) rfl w.heap.size _ rfl rfl 50 (peC peZ) HZ3.out (by kernel_rfl) (peC_size _) (by kernel_rfl) ?_; rw [zero_pe]))
  --A4
  exact bodyPost_ret (v := .tuple #[.agg (peC peZ), .int .i64 er]) (results_cell_tmp rfl _ _ w.heap.size 50 _ (0, 0) _ _ rfl rfl (setRow_heap _ _ _ _ _ _ HZ3.out) Tryz.underlying50 rfl (by rw [peC_size]; kernel_rfl)) rfl ⟨rfl, below_setRow HB3.out (Nat.le_refl _) _⟩
end Go.Proofs.YtplgdpjbkdagfaaGreat
