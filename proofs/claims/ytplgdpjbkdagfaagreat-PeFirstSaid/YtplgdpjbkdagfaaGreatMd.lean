/- law 5: rows of bytes of the call's own, with what is spare; put. -/
import Derived.Test.YtplgdpjbkdagfaaGreatHdrH
import Derived.Test.YtplgdpjbkdagfaaGreatRefPut
namespace Go.Proofs.YtplgdpjbkdagfaaGreat
set_option maxRecDepth 100000
open Go.ChangeShapes Go.WideShapes Go.ChangeAt Go.RowKit
set_option linter.unusedVariables false
set_option linter.unusedSimpArgs false

/-- A slice of n bytes f in a block g of the call's own, cap of which may be written. -/
structure OwnC (w : World) (base g n cap : Nat) (f : Nat → Int) : Prop where
  le : base ≤ g
  lt : g < w.heap.size
  row : Row w g 0 n f
  by255 : Bytes255 f
  len : n ≤ cap
  most : cap ≤ 9223372036854775807
  wr : ∀ j, j < cap → (w.cell? ⟨g, j, none⟩).isSome = true ∧ w.frozen? ⟨g, j, none⟩ = false

theorem OwnC.rowB {w : World} {base g n cap : Nat} {f : Nat → Int} (h : OwnC w base g n cap f) : RowB w g 0 n cap f := ⟨h.row, h.by255, h.lt, h.len, h.most⟩

theorem OwnC.of_block {w w' : World} {base g n cap : Nat} {f : Nat → Int} (h : OwnC w base g n cap f) (hs : w.heap.size ≤ w'.heap.size) (hb : w'.heap[g]? = w.heap[g]?) : OwnC w' base g n cap f :=
  ⟨h.le, Nat.lt_of_lt_of_le h.lt hs, fun i hi => (World.cell?_of_block (a := ⟨g, _, none⟩) hb).trans (h.row i hi), h.by255, h.len, h.most, fun j hj => by
    rw [World.cell?_of_block (a := ⟨g, j, none⟩) hb, World.frozen?_of_block (a := ⟨g, j, none⟩) hb]; exact h.wr j hj⟩

theorem OwnC.below {w w' : World} {base g n cap : Nat} {f : Nat → Int} (h : OwnC w base g n cap f) (hb : Below w.heap.size w w') : OwnC w' base g n cap f := h.of_block hb.size (hb.block g h.lt)

theorem OwnC.congr {w : World} {base g n cap : Nat} {f f' : Nat → Int} (h : OwnC w base g n cap f) (h255 : Bytes255 f') (he : ∀ i, i < n → f i = f' i) : OwnC w base g n cap f' :=
  ⟨h.le, h.lt, fun i hi => by rw [h.row i hi, he i hi], h255, h.len, h.most, h.wr⟩

theorem OwnC.bytes (w : World) (S : ByteArray) (cap lo hi : Nat) (h : S.size ≤ cap) (hm : cap ≤ 9223372036854775807) (h1 : cap ≤ lo) :
    OwnC (w.alloc (.cells (bytesRow S cap) 5 (lo, hi))) w.heap.size w.heap.size S.size cap (PlainAid.bt S) := by
  have hz : (bytesRow S cap).size = cap := by
    have : S.data.size = S.size := rfl
    simp [bytesRow]
    omega
  refine ⟨Nat.le_refl _, by simp, fun i hi' => ?_, bt255 S, h, hm, fun j hj => ⟨?_, ?_⟩⟩
  · have hi2 : i < S.data.size := hi'
    rw [Nat.zero_add, World.cell?_alloc_mark w (bytesRow S cap) 5 (lo, hi) i, bytesRow_at S cap i hi2]
    unfold PlainAid.bt
    rw [dif_pos hi']
    rfl
  · rw [World.cell?_alloc_mark w (bytesRow S cap) 5 (lo, hi) j, Array.getElem?_eq_getElem (by omega)]
    rfl
  · rw [World.frozen?_alloc_mark w (bytesRow S cap) 5 lo hi j]
    simp only [Bool.and_eq_false_iff, decide_eq_false_iff_not]
    left
    omega

theorem OwnC.weaken {w : World} {base base' g n cap : Nat} {f : Nat → Int} (h : OwnC w base g n cap f) (hb : base' ≤ base) : OwnC w base' g n cap f := ⟨Nat.le_trans hb h.le, h.lt, h.row, h.by255, h.len, h.most, h.wr⟩

theorem OwnC.drew {w : World} {base g n cap : Nat} {f : Nat → Int} (h : OwnC w base g n cap f) : OwnC w.drew base g n cap f := h.of_block (Nat.le_refl _) rfl

theorem put_any (b n cap : Nat) (f : Nat → Int) (o k : Nat) (v : Int) (w : World) (h : RowB w b 0 n cap f) (hn : n ≤ 1000000) (k1 : 1 ≤ k) (k8 : k ≤ 8) (ho : o + k ≤ n) (v0 : 0 ≤ v) (v1 : v ≤ 18446744073709551615) :
    Calls Tryz.prog 70 #[.slice (some ⟨b, 0, none⟩) n cap, .int .i64 o, .int .i64 k, .int .u64 v] w fun e w' =>
      ∃ g c, e = .returned (.slice (some ⟨g, 0, none⟩) n c) ∧ OwnC w' w.heap.size g n c (putI f o v k) ∧ Below w.heap.size w w' := by
  have hs := run_str (cap := cap) h.row
  have hsz : (strF f 0 n).size = n := strF_size f 0 n
  have hp := rput_yes (strF f 0 n) o k v w (by omega) k1 k8 (by omega) v0 v1
  rw [hsz, strF_congr (f := putI (PlainAid.bt (strF f 0 n)) o v k) (f' := putI f o v k) (o := 0) (o' := 0) (n := n) (fun i hi => by
    unfold putI
    split
    · rfl
    · rw [Nat.zero_add, bt_strF h.by255 hi, Nat.zero_add])] at hp
  have h255 : Bytes255 (putI f o v k) := putI255 h.by255 o v k
  have hsz2 : (strF (putI f o v k) 0 n).size = n := strF_size _ 0 n
  have hbt : ∀ i, i < n → PlainAid.bt (strF (putI f o v k) 0 n) i = putI f o v k i := fun i hi => by rw [bt_strF h255 hi, Nat.zero_add]
  generalize strF (putI f o v k) 0 n = S' at *
  generalize strF f 0 n = S at *
  generalize putI f o v k = f' at *
  have hcv := fun (W : World) => run_bytes_of_string (P := Tryz.prog) W 9 25 5 S' Tryz.underlying9 Tryz.underlying25 Tryz.underlying5
  have HBT := Lib.hid hbt
  have HP := Lib.hid hp
  clear hp hbt hsz h
  go_enter Tryz.func70, Tryz.ntmps70
  go_wp2_with fail
  refine HP.out.mono ?_
  rintro e w1 ⟨rfl, hb1⟩
  go_wp2_with fail
  go_ret
  have hcap := grownCap_ge w1 n 0 5
  have hcm := grownCap_le_maxLen w1 n 0 5 (by simp only [maxLen]; omega)
  simp only [maxLen] at hcm
  have hbz : (bytesRow S' (grownCap w1 n 0 5)).size = grownCap w1 n 0 5 := by
    have : S'.data.size = S'.size := rfl
    simp [bytesRow]
    omega
  have ho := OwnC.bytes w1 S' (grownCap w1 n 0 5) (bytesRow S' (grownCap w1 n 0 5)).size ((bytesRow S' (grownCap w1 n 0 5)).size + 1) (by omega) (by omega) (by omega)
  rw [hsz2] at ho
  exact ⟨_, _, rfl, ((ho.congr h255 HBT.out).weaken hb1.size).drew, (hb1.alloc hb1.size _).drew⟩
end Go.Proofs.YtplgdpjbkdagfaaGreat
