/- law 7's Made, and what the document fixes. -/
import Derived.Test.YtbjabncefhgefaaExpI
import Derived.Test.YtbjabncefhgefaaExpE
import Derived.Test.YtbjabncefhgefaaExpG
namespace Go.Proofs.Ytbjabncefhgefaa
open Go.ChangeShapes Go.WideShapes Go.ChangeAt Go.RowKit
set_option linter.unusedVariables false
set_option linter.unusedSimpArgs false

theorem dirInfo {x y : Value} : (Try.prog.info? 26).map (·.size) = some (#[x, y] : Array Value).size := by kernel_rfl
theorem made7_gen (base : Nat) (fs ns : List (List Nat)) (lf ln : Nat) (F N : Option Addr) (fc nc : Nat) (w : World) (hF : SlT sC 1 w F fs) (hN : SlT sC 1 w N ns) (hfs : ∀ s ∈ fs, TxOk s) (hns : ∀ s ∈ ns, TxOk s) (hb : base < 4294967296) (hLf : min lf 12 = min fs.length 12) (hLn : min ln 12 = min ns.length 12) (hfl : lf ≤ 9223372036854775807) (hnl : ln ≤ 9223372036854775807)
    (B2 B3 : List Nat) (hB2 : atB 256 (fs.take 12) (min ln 12) base = B2) (hB3 : atE 256 (fs.take 12) (ns.take 12) base = B3) :
    Calls Try.prog 10 #[.slice F lf fc, .slice N ln nc, .int .i64 base] w fun e w' =>
      ∃ g c, e = .returned (.tuple #[.slice (some ⟨g, 0, none⟩) B3.length c, .agg #[.int .i64 256, .int .i64 ((B2.length : Int) - 256)]]) ∧ OwnD w' w.heap.size g c B3 ∧ Below w.heap.size w w' := by
  have HAT := Lib.hid (fun W (hW : Below w.heap.size w W) => at7_gen 256 base fs ns lf ln F N fc nc W (by omega) (hF.below hW) (hN.below hW) hfs hns hb hLf hLn hfl hnl B2 B3 hB2 hB3)
  clear hF hN hfs hns hB2 hB3
  obtain ⟨zz, hzz⟩ : ∃ zz : Int, (B2.length : Int) - 256 = zz := ⟨_, rfl⟩
  rw [hzz]
  have hzz' : (B2.length : Int) - ((256 : Nat) : Int) = zz := hzz
  rw [hzz'] at HAT
  clear hzz hzz'
  go_enter Try.func10, Try.ntmps10
  go_wp2_with fail
  refine (HAT.out _ (by go_grown)).mono ?_
  rintro e w1 ⟨g, c, rfl, ho, hw⟩
  have hr := (hw.block w.heap.size (by simp)).trans (heap_alloc_new w (.cells #[.int .i64 0, .int .i64 0] 26))
  have HR := Lib.hid hr
  have HB := Lib.hid (show Below w.heap.size w w1 from ((Below.refl w.heap.size w).alloc (Nat.le_refl _) _).trans (hw.mono (by simp)))
  have hle := ho.le
  have hle' : w.heap.size + 1 ≤ g := by simpa using hle
  have HO := Lib.hid (ho.weaken (base' := w.heap.size) (by simp))
  obtain ⟨w9, hw9⟩ : ∃ w9, w1.setRow w.heap.size #[.int .i64 256, .int .i64 zz] = w9 := ⟨_, rfl⟩
  have HE9 := Lib.hid hw9
  have HR9 := Lib.hid (show w9.heap[w.heap.size]? = some (.cells #[.int .i64 256, .int .i64 zz] 26 (0, 0)) from by rw [← hw9]; exact setRow_heap _ _ _ _ _ _ HR.out)
  have HB9 := Lib.hid (show Below w.heap.size w w9 from by rw [← hw9]; exact below_setRow HB.out (Nat.le_refl _) _)
  have HO9 := Lib.hid (show OwnD w9 w.heap.size g c B3 from by
    rw [← hw9]
    exact HO.out.of_block (by simp) (setRow_other _ _ _ _ (by omega)))
  have k0 : w9.cell? ⟨w.heap.size, 0, none⟩ = some (.int .i64 256) := by rw [cell_of_row _ _ _ _ _ _ HR9.out]; rfl
  have k1 : w9.cell? ⟨w.heap.size, 1, none⟩ = some (.int .i64 zz) := by rw [cell_of_row _ _ _ _ _ _ HR9.out]; rfl
  clear hw ho hr hle hle' hw9
  go_wp2_with (first | (refine wpList_store_row rfl 26 _ _ rfl w.heap.size #[.int .i64 256, .int .i64 zz] rfl rfl 26 #[.int .i64 0, .int .i64 0] HR.out dirInfo rfl (by simp [Value.oneCell']) ?_; refine (congrArg _ HE9.out).mpr ?_) | fail)
  refine bodyPost_ret (v := .tuple #[.slice (some ⟨g, 0, none⟩) B3.length c, .agg #[.int .i64 256, .int .i64 zz]]) (by simp [results, Try.results10, go_sem, k0, k1]) rfl ?_
  exact ⟨g, c, rfl, HO9.out, HB9.out⟩

theorem made7_any (base : Nat) (fs ns : List (List Nat)) (F N : Option Addr) (fc nc : Nat) (w : World) (hF : SlT sC 1 w F fs) (hN : SlT sC 1 w N ns) (hfs : ∀ s ∈ fs, TxOk s) (hns : ∀ s ∈ ns, TxOk s) (hb : base < 4294967296) (hfl : fs.length ≤ 1000000) (hnl : ns.length ≤ 1000000)
    (B2 B3 : List Nat) (hB2 : atB 256 (fs.take 12) (min ns.length 12) base = B2) (hB3 : atE 256 (fs.take 12) (ns.take 12) base = B3) :
    Calls Try.prog 10 #[.slice F fs.length fc, .slice N ns.length nc, .int .i64 base] w fun e w' =>
      ∃ g c, e = .returned (.tuple #[.slice (some ⟨g, 0, none⟩) B3.length c, .agg #[.int .i64 256, .int .i64 ((B2.length : Int) - 256)]]) ∧ OwnD w' w.heap.size g c B3 ∧ Below w.heap.size w w' :=
  made7_gen base fs ns fs.length ns.length F N fc nc w hF hN hfs hns hb rfl rfl (by omega) (by omega) B2 B3 hB2 hB3

/-! What the document fixes, reckoned. -/
def fs7 : List (List Nat) := [[102], [], [120, 46, 103]]
def ns7 : List (List Nat) := [[97]]
def img7 : List Nat := atE 256 fs7 ns7 5
theorem img7_b2 : (atB 256 fs7 1 5).length = 318 := by decide +kernel
theorem img7_len : img7.length = 320 := by decide +kernel
theorem img7_parse : parseE img7 256 62 = some (5, [(64, []), (0, []), (0, [120, 46, 103])], [([97], 0)]) := by decide +kernel
theorem nil7_parse : parseE [] 1 0 = none := by decide +kernel
theorem by7_name : byNameM [(64, []), (0, []), (0, [120, 46, 103])] (⟨#[97]⟩ : ByteArray).toList [([97], 0)] = some (64, []) := by decide +kernel
theorem by7_six : byOrdM [(64, []), (0, []), (0, [120, 46, 103])] 5 6 = none := by decide +kernel
theorem by7_seven : byOrdM [(64, []), (0, []), (0, [120, 46, 103])] 5 7 = some (0, [120, 46, 103]) := by decide +kernel
end Go.Proofs.Ytbjabncefhgefaa
