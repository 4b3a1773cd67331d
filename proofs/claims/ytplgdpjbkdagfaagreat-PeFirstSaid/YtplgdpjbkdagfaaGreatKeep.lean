/- Plain lemmas: bytes behind a store, what lay stays, texts of bytes. -/
import Derived.Test.YtplgdpjbkdagfaaGreatTail
namespace Go.Proofs.YtplgdpjbkdagfaaGreat
set_option maxRecDepth 100000
open Go.ChangeShapes Go.WideShapes Go.ChangeAt Go.RowKit
set_option linter.unusedVariables false
set_option linter.unusedSimpArgs false

/-- The bytes behind a store. -/
def putI (f : Nat → Int) (o : Nat) (v : Int) (k : Nat) (j : Nat) : Int := if o ≤ j ∧ j < o + k then byteOf v (j - o) else f j
theorem putF_int (f : Nat → Int) (o : Nat) (v : Int) (k j : Nat) : putF (fun i => .int .u8 (f i)) o v k j = .int .u8 (putI f o v k j) := by
  unfold putF putI; split <;> rfl
theorem byteOf_bd (v : Int) (i : Nat) : 0 ≤ byteOf v i ∧ byteOf v i ≤ 255 := by unfold byteOf; omega
theorem putI255 {f : Nat → Int} (hf : Bytes255 f) (o : Nat) (v : Int) (k : Nat) : Bytes255 (putI f o v k) := by
  intro i; unfold putI; split
  · exact byteOf_bd _ _
  · exact hf i

/-- The number of the bytes that were put. -/
theorem rdF_put (f : Nat → Int) (v : Int) (k : Nat) : ∀ (n o d : Nat), d + n ≤ k → rdF (putI f o v k) (o + d) n = v / 2 ^ (8 * d) % 256 ^ n := by
  intro n
  induction n with
  | zero => intro o d _; simp [rdF]
  | succ n ih =>
    intro o d h
    simp only [rdF]
    rw [show o + d + 1 = o + (d + 1) from by omega, ih o (d + 1) (by omega)]
    have e1 : putI f o v k (o + d) = v / 2 ^ (8 * d) % 256 := by
      unfold putI byteOf; rw [if_pos (by omega)]; congr 2; congr 2; omega
    rw [e1, show 8 * (d + 1) = 8 * d + 8 from by omega, Int.pow_add, ← Int.ediv_ediv_of_nonneg (by exact Int.pow_nonneg (by omega))]
    generalize v / 2 ^ (8 * d) = q
    have hp : (0 : Int) < 256 ^ n := Int.pow_pos (by omega)
    rw [Int.pow_succ 256 n, show (2 : Int) ^ 8 = 256 from rfl]
    generalize (256 : Int) ^ n = P at *
    have h1 := Int.emod_add_mul_ediv q 256
    have h2 := Int.emod_add_mul_ediv (q / 256) P
    have hr0 := Int.emod_nonneg (q / 256) (show P ≠ 0 by omega)
    have hr1 := Int.emod_lt_of_pos (q / 256) hp
    have hq0 := Int.emod_nonneg q (show (256 : Int) ≠ 0 by omega)
    have hq1 := Int.emod_lt_of_pos q (show (0 : Int) < 256 by omega)
    have key : q = (q % 256 + 256 * (q / 256 % P)) + (P * 256) * (q / 256 / P) := by
      have e : P * 256 * (q / 256 / P) = 256 * (P * (q / 256 / P)) := by rw [Int.mul_comm P 256, Int.mul_assoc]
      rw [e]; omega
    conv => rhs; rw [key]
    rw [Int.add_mul_emod_self_left]
    exact (Int.emod_eq_of_lt (by omega) (by omega)).symm

theorem catF_zero (f h : Nat → Int) : catF 0 f h = h := by funext i; unfold catF; rw [if_neg (by omega), Nat.sub_zero]

theorem u64_and_mask {v : Int} (h0 : 0 ≤ v) (h1 : v ≤ 18446744073709551615) (k : Nat) (hk : k < 64) : bits BinOp.and IntKind.u64 v ((2 ^ k - 1 : Nat) : Int) = v % (2 ^ k : Nat) := by
  obtain ⟨x, rfl⟩ := Int.eq_ofNat_of_zero_le h0
  have hp : 2 ^ k ≤ 2 ^ 63 := Nat.pow_le_pow_right (by omega) (by omega)
  have hp0 : 0 < 2 ^ k := Nat.pow_pos (by omega)
  rw [u64_and_nat x (2 ^ k - 1) (by omega) (by omega), Nat.and_two_pow_sub_one_eq_mod]
  rfl

/-- What lay in w lies in W. -/
def Keeps (w W : World) : Prop := w.heap.size ≤ W.heap.size ∧ ∀ p : Addr, p.block < w.heap.size → W.cell? p = w.cell? p
theorem Keeps.row {w W : World} (h : Keeps w W) {b off len : Nat} {f : Nat → Int} (hr : Row w b off len f) (hb : b < w.heap.size) : Row W b off len f := fun i hi => (h.2 ⟨b, off + i, none⟩ hb).trans (hr i hi)
theorem Keeps.self (w : World) : Keeps w w := ⟨Nat.le_refl _, fun _ _ => rfl⟩
theorem Keeps.drewN (w : World) (n : Nat) : Keeps w (w.drewN n) := ⟨Nat.le_refl _, fun _ _ => rfl⟩
theorem Keeps.drew (w : World) : Keeps w w.drew := ⟨Nat.le_refl _, fun _ _ => rfl⟩
theorem Keeps.below {w W W' : World} (h : Keeps w W) (hb : Below W.heap.size W W') : Keeps w W' := ⟨Nat.le_trans h.1 hb.size, fun p hp => (hb.cell (Nat.lt_of_lt_of_le hp h.1)).trans (h.2 p hp)⟩

theorem strF_bt (s : ByteArray) : strF (PlainAid.bt s) 0 s.size = s := by
  apply ByteArray.ext
  apply Array.toList_inj.1
  unfold strF
  rw [strOfNums_data, List.map_map]
  apply List.ext_getElem?
  intro i
  rcases Nat.lt_or_ge i s.size with hi | hi
  · have hi' : i < s.data.size := hi
    simp only [List.getElem?_map, List.getElem?_range hi, Option.map_some, Function.comp_apply, Nat.zero_add, Array.getElem?_toList, Array.getElem?_eq_getElem hi']
    unfold PlainAid.bt
    rw [dif_pos hi]
    simp
    rfl
  · rw [List.getElem?_eq_none (by simpa using hi), List.getElem?_eq_none (by simpa using hi)]

theorem extract_bt (s : ByteArray) (o n : Nat) (h : o + n ≤ s.size) : s.extract o (o + n) = strF (PlainAid.bt s) o n := by
  apply ByteArray.ext
  apply Array.toList_inj.1
  unfold strF
  rw [strOfNums_data, List.map_map]
  apply List.ext_getElem?
  intro i
  have hd : (s.extract o (o + n)).data = s.data.extract o (o + n) := by simp
  rw [hd, Array.getElem?_toList, Array.getElem?_extract]
  rcases Nat.lt_or_ge i n with hi | hi
  · have hi' : o + i < s.data.size := by have : s.size = s.data.size := rfl; omega
    rw [if_pos (by have : s.size = s.data.size := rfl; omega)]
    simp only [List.getElem?_map, List.getElem?_range hi, Option.map_some, Function.comp_apply, Array.getElem?_eq_getElem hi']
    unfold PlainAid.bt
    rw [dif_pos (show o + i < s.size from hi')]
    simp
    rfl
  · rw [if_neg (by have : s.size = s.data.size := rfl; omega), List.getElem?_eq_none (by simpa using hi)]

theorem rdF_snoc (f : Nat → Int) (o k : Nat) : rdF f o (k + 1) = rdF f o k + 256 ^ k * f (o + k) := by
  rw [rdF_add]; simp [rdF]

theorem rdF_congr {f f' : Nat → Int} (n : Nat) : ∀ o, (∀ i, i < n → f (o + i) = f' (o + i)) → rdF f o n = rdF f' o n := by
  induction n with
  | zero => intro o _; rfl
  | succ n ih =>
    intro o h
    simp only [rdF]
    rw [ih (o + 1) (fun i hi => by have := h (i + 1) (by omega); rw [show o + (i + 1) = o + 1 + i by omega] at this; exact this)]
    have := h 0 (by omega)
    rw [Nat.add_zero] at this
    rw [this]

theorem bt_strF {f : Nat → Int} (hb : Bytes255 f) {o n i : Nat} (h : i < n) : PlainAid.bt (strF f o n) i = f (o + i) := by
  have h5 := hb (o + i)
  unfold PlainAid.bt
  rw [dif_pos (by rw [strF_size]; exact h)]
  have e : (strF f o n)[i]'(by rw [strF_size]; exact h) = UInt8.ofNat (f (o + i)).toNat := by
    show (strF f o n).data[i]'_ = _
    simp [strF, strOfNums]
  rw [e]
  simp
  omega

theorem strF_cat (f : Nat → Int) (o n m : Nat) : strF f o n ++ strF f (o + n) m = strF f o (n + m) := by
  apply ByteArray.ext
  apply Array.toList_inj.1
  have h : (strF f o n ++ strF f (o + n) m).data = (strF f o n).data ++ (strF f (o + n) m).data := by simp
  rw [h, Array.toList_append]
  unfold strF
  rw [strOfNums_data, strOfNums_data, strOfNums_data, ← List.map_append]
  congr 1
  rw [List.range_add, List.map_append, List.map_map]
  congr 1
  apply List.map_congr_left
  intro i _
  simp [Nat.add_assoc]

end Go.Proofs.YtplgdpjbkdagfaaGreat
