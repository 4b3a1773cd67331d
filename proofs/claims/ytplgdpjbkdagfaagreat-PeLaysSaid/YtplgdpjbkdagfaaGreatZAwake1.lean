import Derived.Test.YtplgdpjbkdagfaaGreatZMem
import Derived.Lib.SmallJoins
import Derived.Laws.BitsAllLaws
import Derived.Laws.BitsLemmas
import Derived.IntWalk
import Derived.Test.YtplgdpjbkdagfaaGreatApp
import Derived.PlainAid
import Derived.Deep.QuietTactic
import Derived.BigQuiet
namespace Go.Proofs.YtplgdpjbkdagfaaGreat
set_option maxRecDepth 100000
open Go.ChangeShapes Go.WideShapes Go.ChangeAt Go.RowKit
open Go.ChangeMaps (open_string shut_string)
set_option linter.unusedVariables false
set_option linter.unusedSimpArgs false
def litF (l : List Int) (i : Nat) : Int := l.getD i 0
theorem row_lit {w : World} {g : Nat} {t : TypeId} {fr : Nat × Nat} (l : List Int) (hg : g = w.heap.size) : Row (w.alloc (.cells (l.map (Value.int .u8)).toArray t fr)) g 0 l.length (litF l) := by
  intro i hi
  subst hg
  rw [Nat.zero_add, World.cell?_alloc_mark]
  simp [hi, litF]
theorem own_row {w : World} {g n : Nat} {f : Nat → Value} {f' : Nat → Int} (h : Own w g n f) (e : ∀ i, i < n → f i = .int .u8 (f' i)) : Row w g 0 n f' := by
  intro i hi
  rw [Nat.zero_add, h.cell hi, e i hi]
end Go.Proofs.YtplgdpjbkdagfaaGreat
namespace Go.Proofs.YtplgdpjbkdagfaaGreat
set_option maxRecDepth 100000
open Go.RowKit
set_option linter.unusedVariables false
set_option linter.unusedSimpArgs false
theorem i64_mask (n : Int) (k : Nat) (hk : k < 63) : bits .and .i64 n (2 ^ k - 1 : Nat) = n % (2 ^ k : Nat) := by
  show IntKind.i64.wrap ((BitVec.ofInt 64 n &&& BitVec.ofInt 64 ((2 ^ k - 1 : Nat) : Int)).toNat : Int) = _
  have hp : 2 ^ k < 2 ^ 63 := Nat.pow_lt_pow_right (by omega) hk
  have hp0 : 0 < 2 ^ k := Nat.pow_pos (by omega)
  rw [BitVec.toNat_and]
  have e1 : (BitVec.ofInt 64 ((2 ^ k - 1 : Nat) : Int)).toNat = 2 ^ k - 1 := by
    rw [BitVec.ofInt_natCast, BitVec.toNat_ofNat]; exact Nat.mod_eq_of_lt (by omega)
  rw [e1, Nat.and_two_pow_sub_one_eq_mod, BitVec.toNat_ofInt]
  have e2 : ((n % ((2 ^ 64 : Nat) : Int)).toNat : Int) = n % ((2 ^ 64 : Nat) : Int) := Int.toNat_of_nonneg (Int.emod_nonneg _ (by omega))
  have e3 : (((n % ((2 ^ 64 : Nat) : Int)).toNat % 2 ^ k : Nat) : Int) = n % ((2 ^ k : Nat) : Int) := by
    rw [Int.natCast_emod, e2]
    exact Int.emod_emod_of_dvd n (Int.natCast_dvd_natCast.2 (Nat.pow_dvd_pow 2 (by omega)))
  rw [e3, IntKind.wrap_i64]
  have h1 := Int.emod_nonneg n (show ((2 ^ k : Nat) : Int) ≠ 0 by omega)
  have h2 := Int.emod_lt_of_pos n (show (0 : Int) < ((2 ^ k : Nat) : Int) by omega)
  generalize n % ((2 ^ k : Nat) : Int) = r at *
  omega
theorem and_ffff (n : Int) : bits .and .i64 n 65535 = n % 65536 := i64_mask n 16 (by omega)
theorem and_7 (n : Int) : bits .and .i64 n 7 = n % 8 := i64_mask n 3 (by omega)
end Go.Proofs.YtplgdpjbkdagfaaGreat
namespace Go.Proofs.YtplgdpjbkdagfaaGreat
set_option maxRecDepth 100000
open Go.ChangeShapes Go.WideShapes Go.ChangeAt Go.RowKit
set_option linter.unusedVariables false
set_option linter.unusedSimpArgs false
def SlB (w : World) (A : Option Addr) (n : Nat) (f : Nat → Int) : Prop := n = 0 ∨ ∃ b off, A = some ⟨b, off, none⟩ ∧ b < w.heap.size ∧ Row w b off n f
theorem SlB.below {w w' : World} {A : Option Addr} {n : Nat} {f : Nat → Int} (h : SlB w A n f) (hb : Below w.heap.size w w') : SlB w' A n f := by
  rcases h with h | ⟨b, off, hA, hlt, hr⟩
  · exact .inl h
  · exact .inr ⟨b, off, hA, Nat.lt_of_lt_of_le hlt hb.size, fun i hi => (hb.cell (p := ⟨b, off + i, none⟩) hlt).trans (hr i hi)⟩
theorem cell_lt {w : World} {b o : Nat} {v : Value} (h : w.cell? ⟨b, o, none⟩ = some v) : b < w.heap.size := by
  rcases Nat.lt_or_ge b w.heap.size with hlt | hge
  · exact hlt
  · simp [World.cell?, Array.getElem?_eq_none hge] at h
def bytesL (n : Nat) (f : Nat → Int) : List Value := (List.range n).map fun i => .int .u8 (f i)
theorem bytesL_len (n : Nat) (f : Nat → Int) : (bytesL n f).length = n := by simp [bytesL]
theorem bytesL_get (n : Nat) (f : Nat → Int) {i : Nat} (h : i < n) : (bytesL n f)[i]? = some (.int .u8 (f i)) := by simp [bytesL, h]
def catF (n : Nat) (f h : Nat → Int) (i : Nat) : Int := if i < n then f i else h (i - n)
theorem bytesL_cat (n m : Nat) (f h : Nat → Int) : bytesL n f ++ bytesL m h = bytesL (n + m) (catF n f h) := by
  apply List.ext_getElem?
  intro i
  rcases Nat.lt_or_ge i n with h1 | h1
  · rw [List.getElem?_append_left (by rw [bytesL_len]; omega), bytesL_get n f h1, bytesL_get _ _ (by omega)]
    simp [catF, h1]
  · rw [List.getElem?_append_right (by rw [bytesL_len]; omega), bytesL_len]
    rcases Nat.lt_or_ge (i - n) m with h2 | h2
    · rw [bytesL_get m h h2, bytesL_get _ _ (by omega)]
      simp [catF, show ¬ i < n by omega]
    · rw [List.getElem?_eq_none (by rw [bytesL_len]; omega), List.getElem?_eq_none (by rw [bytesL_len]; omega)]
theorem cat255 {n : Nat} {f h : Nat → Int} (hf : Bytes255 f) (hh : Bytes255 h) : Bytes255 (catF n f h) := by
  intro i; unfold catF; split
  · exact hf i
  · exact hh _
theorem bytesL_one (n : Nat) (f : Nat → Int) : ∀ u ∈ bytesL n f, u.oneCell' = true := by
  intro u hu
  obtain ⟨i, _, rfl⟩ := List.mem_map.1 hu
  rfl
theorem src_sl {w : World} {A : Option Addr} {m c : Nat} {f : Nat → Int} (h : SlB w A m f) : Src Tryz.prog 1 25 (.slice A m c) m (bytesL m f) w := by
  rcases A with _ | x
  · rcases h with rfl | ⟨b, off, hA, _⟩
    · exact Src.ofNil w Tryz.underlying25 c
    · cases hA
  · refine Src.ofSlice w Tryz.underlying25 x m c (bytesL m f) (by rw [bytesL_len, Nat.mul_one]) (fun j u hu => ?_) (bytesL_one m f)
    rcases h with rfl | ⟨b, off, hA, _, hr⟩
    · simp [bytesL] at hu
    · injection hA with hA
      subst hA
      have hj : j < m := by
        rcases Nat.lt_or_ge j m with hj | hj
        · exact hj
        · rw [List.getElem?_eq_none (by rw [bytesL_len]; omega)] at hu; cases hu
      rw [bytesL_get m f hj] at hu
      injection hu with hu
      subst hu
      have hadd : (⟨b, off, none⟩ : Addr).add j = ⟨b, off + j, none⟩ := by unfold Addr.add; split <;> simp_all
      rw [hadd]
      exact hr j hj
theorem src_str {w : World} (s : ByteArray) : Src Tryz.prog 1 9 (.string s) s.size (bytesL s.size (PlainAid.bt s)) w := by
  have h := Src.ofString (P := Tryz.prog) w Tryz.underlying9 s
  have e : byteCells s = bytesL s.size (PlainAid.bt s) := by
    apply List.ext_getElem?
    intro i
    rcases Nat.lt_or_ge i s.size with hi | hi
    · rw [bytesL_get _ _ hi]
      have hi' : i < s.data.size := hi
      simp only [byteCells, List.getElem?_map, Array.getElem?_toList, Array.getElem?_eq_getElem hi', Option.map_some]
      unfold PlainAid.bt
      rw [dif_pos hi]
      rfl
    · rw [List.getElem?_eq_none (by rw [byteCells_length]; omega), List.getElem?_eq_none (by rw [bytesL_len]; omega)]
  rw [e] at h
  exact h
theorem bt255 (s : ByteArray) : Bytes255 (PlainAid.bt s) := fun i => ⟨PlainAid.bt_nonneg s i, PlainAid.bt_le s i⟩
def OwnB (w : World) (base : Nat) (v : Value) (n : Nat) (f : Nat → Int) : Prop := w.ownsRow base 5 1 v n (bytesL n f)
theorem ownB_nil (w : World) (base : Nat) (f : Nat → Int) : OwnB w base (.slice none 0 0) 0 f := World.ownsRow_nil w base _ 1
theorem OwnB.own {w : World} {base g n cap : Nat} {f : Nat → Int} (h : OwnB w base (.slice (some ⟨g, 0, none⟩) n cap) n f) (hn : 0 < n) : base ≤ g ∧ g < w.heap.size ∧ n ≤ cap ∧ cap ≤ maxLen ∧ Own w g n (fun i => .int .u8 (f i)) := by
  obtain ⟨g', hA, hb, hown⟩ := Own.of_own (f := fun i => .int .u8 (f i)) h hn (fun i hi => bytesL_get n f hi)
  injection hA with hA
  injection hA with hA
  subst hA
  rcases h.2 with ⟨h0, h1⟩ | ⟨g', cap', cur, hv, _, _, h1, h2, _⟩
  · omega
  · injection hv with _ _ hv
    subst hv
    exact ⟨hb, hown.1, h1, h2, hown⟩
theorem wpList_appV {w : World} {ops : Array Oper} {rest : List Oper} {o : Oper} {a : Act} {Q : Exit → Act → World → Prop} (hgd : o.guard = none) (s x : Operand) (tx : TypeId)
    (ho : o.op = .call { callee := .builtin .append, args := #[s, x], argTypes := #[25, tx] })
    (base : Nat) (v : Value) (n : Nat) (f : Nat → Int) (hv : a.eval s = v) (hown : OwnB w base v n f) (X : Value) (hX : a.eval x = X) (m : Nat) (h : Nat → Int) (hs : Src Tryz.prog 1 tx X m (bytesL m h) w)
    (h63 : n + m ≤ 140737488355328) (hbase : base ≤ w.heap.size)
    (hK : ∀ v' w', OwnB w' base v' (n + m) (catF n f h) → w.grownBy w' v.ownBlock → (v'.ownBlock = v.ownBlock ∨ v'.ownBlock = some w.heap.size) → wpList Tryz.prog ops Q rest (a.put o.dst v') w') :
    wpList Tryz.prog ops Q (o :: rest) a w := by
  obtain ⟨i0, hi, hz0, hz1, hz2⟩ := info_parts infoU8
  refine wpList_app_src w hgd s x 25 tx ho base 5 i0 (.int .u8 0) 1 Tryz.underlying25 hi hz0 hz1 hz2 rfl v n (bytesL n f) hv hown X hX m (bytesL m h) hs (by unfold maxLen; omega) (by omega) hbase ?_
  intro v' w' hown' hg _ hat
  rw [bytesL_cat] at hown'
  exact hK v' w' hown' hg hat
theorem OwnB.slice {w : World} {base n cap : Nat} {A : Option Addr} {f : Nat → Int} (h : OwnB w base (.slice A n cap) n f) :
    n ≤ cap ∧ cap ≤ maxLen ∧ (n = 0 ∨ ∃ g, A = some ⟨g, 0, none⟩ ∧ base ≤ g ∧ Own w g n (fun i => .int .u8 (f i))) := by
  rcases Nat.eq_zero_or_pos n with h0 | h0
  · subst h0
    rcases h.2 with ⟨h1, _⟩ | ⟨g, cap', _, h1, _, _, h2, h3, _⟩
    · injection h1 with _ _ h1; subst h1; exact ⟨by omega, by omega, .inl rfl⟩
    · injection h1 with _ _ h1; subst h1; exact ⟨h2, h3, .inl rfl⟩
  · obtain ⟨g, hA, hb, hown⟩ := Own.of_own (f := fun i => .int .u8 (f i)) h h0 (fun i hi => bytesL_get n f hi)
    subst hA
    obtain ⟨_, _, h2, h3, _⟩ := h.own h0
    exact ⟨h2, h3, .inr ⟨g, rfl, hb, hown⟩⟩
theorem OwnB.below {w w' : World} {base : Nat} {v : Value} {n : Nat} {f : Nat → Int} (h : OwnB w base v n f) (hb : Below w.heap.size w w') : OwnB w' base v n f :=
  World.ownsRow.kept h (row := none) ⟨hb.os, hb.tape, hb.output, hb.size, fun i hi _ => hb.block i hi⟩ (by
    cases hv : v.ownBlock with
    | none => exact .inl rfl
    | some k => exact .inr (by simp))
theorem strF_congr {f f' : Nat → Int} {o o' n : Nat} (h : ∀ i, i < n → f (o + i) = f' (o' + i)) : strF f o n = strF f' o' n := by
  unfold strF
  congr 1
  apply List.map_congr_left
  intro i hi
  exact h i (List.mem_range.1 hi)
theorem Row.below {w w' : World} {B b off len : Nat} {f : Nat → Int} (h : Row w b off len f) (hb : Below B w w') (hB : b < B) : Row w' b off len f := fun i hi => (hb.cell (p := ⟨b, off + i, none⟩) hB).trans (h i hi)
def putI (f : Nat → Int) (o : Nat) (v : Int) (k : Nat) (j : Nat) : Int := if o ≤ j ∧ j < o + k then byteOf v (j - o) else f j
theorem byteOf_bd (v : Int) (i : Nat) : 0 ≤ byteOf v i ∧ byteOf v i ≤ 255 := by unfold byteOf; omega
theorem putI255 {f : Nat → Int} (hf : Bytes255 f) (o : Nat) (v : Int) (k : Nat) : Bytes255 (putI f o v k) := by
  intro i; unfold putI; split
  · exact byteOf_bd _ _
  · exact hf i
theorem rdF_put (f : Nat → Int) (v : Int) (k : Nat) : ∀ (n o d : Nat), d + n ≤ k → rdF (putI f o v k) (o + d) n = v / 2 ^ (8 * d) % 256 ^ n := by
  intro n
  induction n with
  | zero => intro o d _; simp [rdF]
  | succ n ih =>
    intro o d h
    simp only [rdF]
    rw [show o + d + 1 = o + (d + 1) from by omega, ih o (d + 1) (by omega)]
    have e1 : putI f o v k (o + d) = v / 2 ^ (8 * d) % 256 := by
      unfold putI byteOf; rw [if_pos (by omega)]; congr 2; congr 2; omega
    rw [e1, show 8 * (d + 1) = 8 * d + 8 from by omega, Int.pow_add, ← Int.ediv_ediv_of_nonneg (by exact Int.pow_nonneg (by omega))]
    generalize v / 2 ^ (8 * d) = q
    have hp : (0 : Int) < 256 ^ n := Int.pow_pos (by omega)
    rw [Int.pow_succ 256 n, show (2 : Int) ^ 8 = 256 from rfl]
    generalize (256 : Int) ^ n = P at *
    have h1 := Int.emod_add_mul_ediv q 256
    have h2 := Int.emod_add_mul_ediv (q / 256) P
    have hr0 := Int.emod_nonneg (q / 256) (show P ≠ 0 by omega)
    have hr1 := Int.emod_lt_of_pos (q / 256) hp
    have hq0 := Int.emod_nonneg q (show (256 : Int) ≠ 0 by omega)
    have hq1 := Int.emod_lt_of_pos q (show (0 : Int) < 256 by omega)
    have key : q = (q % 256 + 256 * (q / 256 % P)) + (P * 256) * (q / 256 / P) := by
      have e : P * 256 * (q / 256 / P) = 256 * (P * (q / 256 / P)) := by rw [Int.mul_comm P 256, Int.mul_assoc]
      rw [e]; omega
    conv => rhs; rw [key]
    rw [Int.add_mul_emod_self_left]
    exact (Int.emod_eq_of_lt (by omega) (by omega)).symm
def Keeps (w W : World) : Prop := w.heap.size ≤ W.heap.size ∧ ∀ p : Addr, p.block < w.heap.size → W.cell? p = w.cell? p
theorem Keeps.drew (w : World) : Keeps w w.drew := ⟨Nat.le_refl _, fun _ _ => rfl⟩
theorem Keeps.below {w W W' : World} (h : Keeps w W) (hb : Below W.heap.size W W') : Keeps w W' := ⟨Nat.le_trans h.1 hb.size, fun p hp => (hb.cell (Nat.lt_of_lt_of_le hp h.1)).trans (h.2 p hp)⟩
theorem strF_bt (s : ByteArray) : strF (PlainAid.bt s) 0 s.size = s := by
  apply ByteArray.ext
  apply Array.toList_inj.1
  unfold strF
  rw [strOfNums_data, List.map_map]
  apply List.ext_getElem?
  intro i
  rcases Nat.lt_or_ge i s.size with hi | hi
  · have hi' : i < s.data.size := hi
    simp only [List.getElem?_map, List.getElem?_range hi, Option.map_some, Function.comp_apply, Nat.zero_add, Array.getElem?_toList, Array.getElem?_eq_getElem hi']
    unfold PlainAid.bt
    rw [dif_pos hi]
    simp
    rfl
  · rw [List.getElem?_eq_none (by simpa using hi), List.getElem?_eq_none (by simpa using hi)]
theorem extract_bt (s : ByteArray) (o n : Nat) (h : o + n ≤ s.size) : s.extract o (o + n) = strF (PlainAid.bt s) o n := by
  apply ByteArray.ext
  apply Array.toList_inj.1
  unfold strF
  rw [strOfNums_data, List.map_map]
  apply List.ext_getElem?
  intro i
  have hd : (s.extract o (o + n)).data = s.data.extract o (o + n) := by simp
  rw [hd, Array.getElem?_toList, Array.getElem?_extract]
  rcases Nat.lt_or_ge i n with hi | hi
  · have hi' : o + i < s.data.size := by have : s.size = s.data.size := rfl; omega
    rw [if_pos (by have : s.size = s.data.size := rfl; omega)]
    simp only [List.getElem?_map, List.getElem?_range hi, Option.map_some, Function.comp_apply, Array.getElem?_eq_getElem hi']
    unfold PlainAid.bt
    rw [dif_pos (show o + i < s.size from hi')]
    simp
    rfl
  · rw [if_neg (by have : s.size = s.data.size := rfl; omega), List.getElem?_eq_none (by simpa using hi)]
theorem rdF_snoc (f : Nat → Int) (o k : Nat) : rdF f o (k + 1) = rdF f o k + 256 ^ k * f (o + k) := by
  rw [rdF_add]; simp [rdF]
theorem rdF_congr {f f' : Nat → Int} (n : Nat) : ∀ o, (∀ i, i < n → f (o + i) = f' (o + i)) → rdF f o n = rdF f' o n := by
  induction n with
  | zero => intro o _; rfl
  | succ n ih =>
    intro o h
    simp only [rdF]
    rw [ih (o + 1) (fun i hi => by have := h (i + 1) (by omega); rw [show o + (i + 1) = o + 1 + i by omega] at this; exact this)]
    have := h 0 (by omega)
    rw [Nat.add_zero] at this
    rw [this]
theorem bt_strF {f : Nat → Int} (hb : Bytes255 f) {o n i : Nat} (h : i < n) : PlainAid.bt (strF f o n) i = f (o + i) := by
  have h5 := hb (o + i)
  unfold PlainAid.bt
  rw [dif_pos (by rw [strF_size]; exact h)]
  have e : (strF f o n)[i]'(by rw [strF_size]; exact h) = UInt8.ofNat (f (o + i)).toNat := by
    show (strF f o n).data[i]'_ = _
    simp [strF, strOfNums]
  rw [e]
  simp
  omega
theorem strF_cat (f : Nat → Int) (o n m : Nat) : strF f o n ++ strF f (o + n) m = strF f o (n + m) := by
  apply ByteArray.ext
  apply Array.toList_inj.1
  have h : (strF f o n ++ strF f (o + n) m).data = (strF f o n).data ++ (strF f (o + n) m).data := by simp
  rw [h, Array.toList_append]
  unfold strF
  rw [strOfNums_data, strOfNums_data, strOfNums_data, ← List.map_append]
  congr 1
  rw [List.range_add, List.map_append, List.map_map]
  congr 1
  apply List.map_congr_left
  intro i _
  simp [Nat.add_assoc]
theorem belD {B : Nat} {w wr : World} (h : Below B w wr) (n : Nat) : Below B w (wr.drewN n) := ⟨h.os, h.tape, h.output, h.size, h.block⟩
theorem rowIn_any (A : Option Addr) (len cap : Nat) (a n : Int) (b : Bool) (w : World) (hl : len ≤ 9223372036854775807) (n1 : -9223372036854775808 ≤ n) (n2 : n ≤ 9223372036854775807) (hb : b = true ↔ (0 ≤ a ∧ 0 ≤ n ∧ a ≤ len - n)) :
    Calls Tryz.prog 113 #[.slice A len cap, .int .i64 a, .int .i64 n] w fun e w' => e = .returned (.bool b) ∧ w = w' := by
  by_cases c1 : 0 ≤ a
  · by_cases c2 : 0 ≤ n
    · by_cases c3 : a ≤ len - n
      · have hbt : b = true := hb.2 ⟨c1, c2, c3⟩
        subst hbt
        have c4 : decide (a ≤ (len : Int) - n) = true := decide_eq_true c3
        clear hb
        go_enter Tryz.func113, Tryz.ntmps113
        go_wp2
        go_ret
        exact ⟨rfl, rfl⟩
      · have hbt : b = false := by cases b with
          | false => rfl
          | true => exact absurd (hb.1 rfl).2.2 c3
        subst hbt
        have c4 : decide (a ≤ (len : Int) - n) = false := decide_eq_false c3
        clear hb c3
        go_enter Tryz.func113, Tryz.ntmps113
        go_wp2
        go_ret
        exact ⟨rfl, rfl⟩
    · have hbt : b = false := by cases b with
        | false => rfl
        | true => exact absurd (hb.1 rfl).2.1 c2
      subst hbt
      clear hb
      go_enter Tryz.func113, Tryz.ntmps113
      go_wp2
      go_ret
      exact ⟨rfl, rfl⟩
  · have hbt : b = false := by cases b with
      | false => rfl
      | true => exact absurd (hb.1 rfl).1 c1
    subst hbt
    clear hb
    go_enter Tryz.func113, Tryz.ntmps113
    go_wp2
    go_ret
    exact ⟨rfl, rfl⟩
def roundS (n t : Int) : Int := if n < 1 then 0 else ((min n 1099511627776 - 1) / max t 1 + 1) * max t 1
theorem roundS_bd (n t : Int) (ht : t ≤ 9223372036854775807) : 0 ≤ roundS n t ∧ roundS n t ≤ 9223372036854775807 := by
  unfold roundS
  split
  · omega
  · obtain ⟨m, hm⟩ : ∃ m, min n 1099511627776 = m := ⟨_, rfl⟩
    obtain ⟨d, hd⟩ : ∃ d, max t 1 = d := ⟨_, rfl⟩
    rw [hm, hd]
    have h1 : 1 ≤ m := by omega
    have h2 : m ≤ 1099511627776 := by omega
    have d1 : 1 ≤ d := by omega
    have d2 : d ≤ 9223372036854775807 := by omega
    have e : (m - 1) / d * d ≤ m - 1 := Int.ediv_mul_le _ (by omega)
    have e0 : 0 ≤ (m - 1) / d := Int.ediv_nonneg (by omega) (by omega)
    have e00 : 0 ≤ (m - 1) / d * d := Int.mul_nonneg e0 (by omega)
    rw [Int.add_mul, Int.one_mul]
    by_cases c : m - 1 < d
    · rw [Int.ediv_eq_zero_of_lt (by omega) c]; omega
    · omega
theorem round_any (n t : Int) (w : World) (h0 : -9223372036854775808 ≤ n) (h1 : n ≤ 9223372036854775807) (t0 : -9223372036854775808 ≤ t) (t1 : t ≤ 9223372036854775807) :
    Calls Tryz.prog 106 #[.int .i64 n, .int .i64 t] w fun e w' => e = .returned (.int .i64 (roundS n t)) ∧ w = w' := by
  have hb := roundS_bd n t t1
  unfold roundS at hb ⊢
  by_cases c : n < 1
  · rw [if_pos c]
    go_enter Tryz.func106, Tryz.ntmps106
    go_wp2
    go_ret
    exact ⟨rfl, rfl⟩
  · rw [if_neg c] at hb ⊢
    obtain ⟨m, hm⟩ : ∃ m, min n 1099511627776 = m := ⟨_, rfl⟩
    obtain ⟨d, hd⟩ : ∃ d, max t 1 = d := ⟨_, rfl⟩
    rw [hm, hd] at hb ⊢
    have h1 : 1 ≤ m := by omega
    have h2 : m ≤ 1099511627776 := by omega
    have d1 : 1 ≤ d := by omega
    have d2 : d ≤ 9223372036854775807 := by omega
    obtain ⟨q, hq⟩ : ∃ q, (m - 1) / d = q := ⟨_, rfl⟩
    have hqt : Int.tdiv (m - 1) d = q := by rw [← hq]; exact Int.tdiv_eq_ediv_of_nonneg (by omega)
    have q0 : 0 ≤ q := by rw [← hq]; exact Int.ediv_nonneg (by omega) (by omega)
    have q1 : q ≤ 1099511627776 := by rw [← hq]; exact Int.le_trans (Int.ediv_le_self _ (by omega)) (by omega)
    rw [hq] at hb ⊢
    obtain ⟨r, hr⟩ : ∃ r, (q + 1) * d = r := ⟨_, rfl⟩
    rw [hr] at hb ⊢
    have hw : wrap64 r = r := by unfold wrap64; omega
    obtain ⟨b0, b1⟩ := hb
    have hw1 : wrap64 (q + 1) = q + 1 := by unfold wrap64; omega
    have hc : (n ≤ 1099511627776 ∧ m = n) ∨ (1099511627776 < n ∧ m = 1099511627776) := by omega
    have hcd : (1 ≤ t ∧ d = t) ∨ (t < 1 ∧ d = 1) := by omega
    rcases hc with ⟨n1, rfl⟩ | ⟨n1, rfl⟩ <;> rcases hcd with ⟨n2, rfl⟩ | ⟨n2, rfl⟩
    all_goals
      clear hm hd hqt
      try simp only [show (1099511627776 - 1 : Int) = 1099511627775 from rfl] at hq
      go_enter Tryz.func106, Tryz.ntmps106
      go_wp2
      go_ret
      first
      | exact ⟨rfl, rfl⟩
      | exact ⟨congrArg _ (congrArg (Value.int .i64) (by omega)), rfl⟩
theorem emod_up {m d : Int} (h1 : 1 ≤ m) (hd : 1 ≤ d) : ((m - 1) / d + 1) * d = if m % d = 0 then m else m - m % d + d := by
  have e := Int.mul_ediv_add_emod m d
  have m0 := Int.emod_nonneg m (show d ≠ 0 by omega)
  have m1 := Int.emod_lt_of_pos m (show 0 < d by omega)
  obtain ⟨q, hq⟩ : ∃ q, m / d = q := ⟨_, rfl⟩
  obtain ⟨r, hr⟩ : ∃ r, m % d = r := ⟨_, rfl⟩
  rw [hq, hr] at e
  rw [hr] at m0 m1 ⊢
  by_cases c : r = 0
  · rw [if_pos c]
    have hx : (m - 1) / d = q - 1 := by
      rw [show m - 1 = (d - 1) + d * (q - 1) by rw [Int.mul_sub, Int.mul_one]; omega, Int.add_mul_ediv_left _ _ (by omega), Int.ediv_eq_zero_of_lt (by omega) (by omega)]
      omega
    rw [hx, Int.sub_add_cancel, Int.mul_comm]
    omega
  · rw [if_neg c]
    have hx : (m - 1) / d = q := by
      rw [show m - 1 = (r - 1) + d * q by omega, Int.add_mul_ediv_left _ _ (by omega), Int.ediv_eq_zero_of_lt (by omega) (by omega)]
      omega
    rw [hx, Int.add_mul, Int.one_mul, Int.mul_comm]
    omega
theorem rround_any (n t : Int) (w : World) (h0 : -9223372036854775808 ≤ n) (h1 : n ≤ 9223372036854775807) (t0 : -9223372036854775808 ≤ t) (t1 : t ≤ 9223372036854775807) :
    Calls Tryz.prog 71 #[.int .i64 n, .int .i64 t] w fun e w' => e = .returned (.int .i64 (roundS n t)) ∧ w = w' := by
  have hb := roundS_bd n t t1
  unfold roundS at hb ⊢
  by_cases c : n < 1
  · rw [if_pos c]
    go_enter Tryz.func71, Tryz.ntmps71
    go_wp2
    go_ret
    exact ⟨rfl, rfl⟩
  · rw [if_neg c] at hb ⊢
    rw [emod_up (by omega) (by omega)] at hb ⊢
    obtain ⟨m, hm⟩ : ∃ m, min n 1099511627776 = m := ⟨_, rfl⟩
    obtain ⟨d, hd⟩ : ∃ d, max t 1 = d := ⟨_, rfl⟩
    rw [hm, hd] at hb ⊢
    have h1 : 1 ≤ m := by omega
    have h2 : m ≤ 1099511627776 := by omega
    have d1 : 1 ≤ d := by omega
    have d2 : d ≤ 9223372036854775807 := by omega
    have m0 := Int.emod_nonneg m (show d ≠ 0 by omega)
    have m1 := Int.emod_lt_of_pos m (show 0 < d by omega)
    have m2 : m % d ≤ m := by
      have e := Int.mul_ediv_add_emod m d
      have e2 := Int.mul_nonneg (show 0 ≤ d by omega) (Int.ediv_nonneg (show 0 ≤ m by omega) (show 0 ≤ d by omega))
      omega
    have hmt : Int.tmod m d = m % d := Int.tmod_eq_emod_of_nonneg (by omega)
    have hc : (n ≤ 1099511627776 ∧ m = n) ∨ (1099511627776 < n ∧ m = 1099511627776) := by omega
    have hcd : (1 ≤ t ∧ d = t) ∨ (t < 1 ∧ d = 1) := by omega
    obtain ⟨r, hr⟩ : ∃ r, m % d = r := ⟨_, rfl⟩
    rw [hr] at m0 m1 m2 hb hmt ⊢
    by_cases c0 : r = 0
    · have e0 : (r == 0) = true := by simp [c0]
      rw [if_pos c0]
      rcases hc with ⟨n1, rfl⟩ | ⟨n1, rfl⟩ <;> rcases hcd with ⟨n2, rfl⟩ | ⟨n2, rfl⟩
      all_goals
        clear hm hd hb c0
        go_enter Tryz.func71, Tryz.ntmps71
        go_wp2
        go_ret
        exact ⟨rfl, rfl⟩
    · have e0 : (r == 0) = false := by simpa using c0
      rw [if_neg c0] at hb ⊢
      rcases hc with ⟨n1, rfl⟩ | ⟨n1, rfl⟩ <;> rcases hcd with ⟨n2, rfl⟩ | ⟨n2, rfl⟩
      all_goals
        first
        | (exfalso; omega)
        | (clear hm hd c0
           go_enter Tryz.func71, Tryz.ntmps71
           go_wp2
           go_ret
           exact ⟨rfl, rfl⟩)
def relLen (k : Int) : Int := if k = 3 then 4 else if k = 10 then 8 else 0
theorem relLen_bd (k : Int) : 0 ≤ relLen k ∧ relLen k ≤ 8 := by unfold relLen; split <;> (try split) <;> omega
theorem length_any (k r : Int) (w : World) : Calls Tryz.prog 138 #[.agg #[.int .i64 k, .int .i64 r]] w fun e w' => e = .returned (.int .i64 (relLen k)) ∧ Below w.heap.size w w' := by
  unfold relLen
  by_cases c1 : k = 3
  · subst c1
    go_enter Tryz.func138, Tryz.ntmps138
    go_wp2
    go_ret
    exact ⟨rfl, by go_grown⟩
  · by_cases c2 : k = 10
    · subst c2
      go_enter Tryz.func138, Tryz.ntmps138
      go_wp2
      go_ret
      exact ⟨rfl, by go_grown⟩
    · have e1 : (k == 3) = false := by simpa using c1
      have e2 : (k == 10) = false := by simpa using c2
      rw [if_neg c1, if_neg c2]
      go_enter Tryz.func138, Tryz.ntmps138
      go_wp2
      go_ret
      exact ⟨rfl, by go_grown⟩
def rheadS (f : Nat → Int) (o e : Nat) : Option (Int × Int) :=
  if e < o + 8 then none else
  if rdF f o 4 % 4096 ≠ 0 ∨ rdF f (o + 4) 4 < 8 ∨ rdF f (o + 4) 4 % 4 ≠ 0 ∨ (e : Int) - o < rdF f (o + 4) 4 then none else
  some (rdF f o 4, rdF f (o + 4) 4)
theorem headS_some {f : Nat → Int} {o e : Nat} {p n : Int} (h : rheadS f o e = some (p, n)) : o + 8 ≤ e ∧ p = rdF f o 4 ∧ p % 4096 = 0 ∧ 8 ≤ n ∧ n % 4 = 0 ∧ n ≤ (e : Int) - o := by
  unfold rheadS at h
  by_cases c : e < o + 8
  · rw [if_pos c] at h; cases h
  · rw [if_neg c] at h
    by_cases c2 : rdF f o 4 % 4096 ≠ 0 ∨ rdF f (o + 4) 4 < 8 ∨ rdF f (o + 4) 4 % 4 ≠ 0 ∨ (e : Int) - o < rdF f (o + 4) 4
    · rw [if_pos c2] at h; cases h
    · rw [if_neg c2] at h
      injection h with h
      injection h with h1 h2
      subst h1 h2
      refine ⟨by omega, rfl, ?_, ?_, ?_, ?_⟩ <;> (have := c2; simp only [not_or, Int.not_lt] at this; omega)
set_option maxRecDepth 100000 in
theorem head_any (b off len cap : Nat) (f : Nat → Int) (o e : Nat) (w : World) (h0 : len ≤ 9223372036854775807) (ho : o ≤ e) (he : e ≤ len) (hb : Bytes255 f) (hc : Row w b off len f) :
    Calls Tryz.prog 114 #[.slice (some ⟨b, off, none⟩) len cap, .int .i64 o, .int .i64 e] w fun e' w' =>
      e' = .returned (.tuple #[.int .i64 ((rheadS f o e).getD (0, 0)).1, .int .i64 ((rheadS f o e).getD (0, 0)).2, .bool (rheadS f o e).isSome]) ∧ w = w' := by
  have HC := Lib.hid hc
  have HB := Lib.hid hb
  obtain ⟨r, hr⟩ : ∃ r, rheadS f o e = r := ⟨_, rfl⟩
  rw [hr]
  have HR := Lib.hid hr
  clear hr hc hb
  by_cases c0 : e < o + 8
  · have hr := HR.out
    unfold rheadS at hr
    rw [if_pos c0] at hr
    subst hr
    have c1 : (e : Int) - o < 8 := by omega
    go_enter Tryz.func114, Tryz.ntmps114
    go_wp2
    exact bodyPost_ret (v := .tuple #[.int .i64 0, .int .i64 0, .bool false]) (by simp [results, Tryz.results114, go_sem]) rfl ⟨rfl, rfl⟩
  · have hp := rdF_bd f HB.out 4 o
    have hn := rdF_bd f HB.out 4 (o + 4)
    obtain ⟨p, hpe⟩ : ∃ p, rdF f o 4 = p := ⟨_, rfl⟩
    obtain ⟨n, hne⟩ : ∃ n, rdF f (o + 4) 4 = n := ⟨_, rfl⟩
    rw [hpe] at hp
    rw [hne] at hn
    obtain ⟨p0, p1⟩ := hp
    obtain ⟨n0, n1⟩ := hn
    have hr := HR.out
    unfold rheadS at hr
    rw [if_neg c0, hpe, hne] at hr
    have HR2 := Lib.hid hr
    have HP := Lib.hid hpe
    have HN := Lib.hid hne
    clear hr hpe hne
    have c1 : 8 ≤ (e : Int) - o := by omega
    have hu1 := u32_yes b off len cap f o w h0 (by omega) HB.out HC.out
    have hu2 := u32_yes b off len cap f (o + 4) w h0 (by omega) HB.out HC.out
    rw [HP.out] at hu1
    rw [HN.out, show ((o + 4 : Nat) : Int) = (o : Int) + 4 by omega] at hu2
    have HU1 := Lib.hid hu1
    have HU2 := Lib.hid hu2
    clear hu1 hu2 c0
    have p2 : p < 4294967296 := by omega
    have n2 : n < 4294967296 := by omega
    clear p1 n1
    have hcs : ((p % 4096 != 0) = true ∧ r = none) ∨ ((p % 4096 != 0) = false ∧ n < 8 ∧ r = none) ∨ ((p % 4096 != 0) = false ∧ 8 ≤ n ∧ (n % 4 != 0) = true ∧ r = none) ∨
        ((p % 4096 != 0) = false ∧ 8 ≤ n ∧ (n % 4 != 0) = false ∧ (e : Int) - o < n ∧ r = none) ∨ ((p % 4096 != 0) = false ∧ 8 ≤ n ∧ (n % 4 != 0) = false ∧ n ≤ (e : Int) - o ∧ r = some (p, n)) := by
      have h := HR2.out
      by_cases d1 : p % 4096 = 0
      · right
        by_cases d2 : n < 8
        · left; rw [if_pos (by omega)] at h; exact ⟨by simp [d1], d2, h.symm⟩
        · right
          by_cases d3 : n % 4 = 0
          · right
            by_cases d4 : (e : Int) - o < n
            · left; rw [if_pos (by omega)] at h; exact ⟨by simp [d1], by omega, by simp [d3], d4, h.symm⟩
            · right; rw [if_neg (by omega)] at h; exact ⟨by simp [d1], by omega, by simp [d3], by omega, h.symm⟩
          · left; rw [if_pos (by omega)] at h; exact ⟨by simp [d1], by omega, by simp [d3], h.symm⟩
      · left; rw [if_pos (by omega)] at h; exact ⟨by simp [d1], h.symm⟩
    clear HR2 HR
    rcases hcs with ⟨d1, rfl⟩ | ⟨d1, d2, rfl⟩ | ⟨d1, d2, d3, rfl⟩ | ⟨d1, d2, d3, d4, rfl⟩ | ⟨d1, d2, d3, d4, rfl⟩
    all_goals
      go_enter Tryz.func114, Tryz.ntmps114
      go_wp2_with fail
      refine HU1.out.mono ?_
      rintro e w' ⟨rfl, rfl⟩
      go_wp2_with fail
      refine HU2.out.mono ?_
      rintro e w' ⟨rfl, rfl⟩
      go_wp2
      first
      | exact bodyPost_ret (v := .tuple #[.int .i64 0, .int .i64 0, .bool false]) (by simp [results, Tryz.results114, go_sem]) rfl ⟨rfl, rfl⟩
      | exact bodyPost_ret (v := .tuple #[.int .i64 p, .int .i64 n, .bool true]) (by simp [results, Tryz.results114, go_sem]) rfl ⟨rfl, rfl⟩
def takeP (n : Nat) (tk : Nat → Bool) (k r : Int) : Prop := relLen k ≠ 0 ∧ r + relLen k ≤ n ∧ ∀ j : Nat, r ≤ j → (j : Int) < r + relLen k → tk j = false
def setT (tk : Nat → Bool) (r e : Int) (j : Nat) : Bool := tk j || (decide (r ≤ j) && decide ((j : Int) < e))
def TakenTo (w : World) (g n : Nat) (b : Bool) (t : Nat → Bool) : Prop := ∃ tk', Own w g n (fun i => .bool (tk' i)) ∧ (b = true → tk' = t)
theorem grown_below {w w' : World} (h : Below w.heap.size w w') (row : Option Nat) : w.grownBy w' row := ⟨h.os, h.tape, h.output, h.size, fun k hk _ => h.block k hk⟩
theorem own_two (w : World) (x y : Value) (t : TypeId) : Own (w.alloc (.cells #[x, y] t)) w.heap.size 2 (fun i => if i = 0 then x else y) :=
  ⟨by simp, fun i hi => ⟨by rcases (by omega : i = 0 ∨ i = 1) with rfl | rfl <;> simp [go_sem], by simp [go_sem]⟩⟩
set_option maxRecDepth 100000 in
theorem take_any (w : World) (g n cap : Nat) (tk : Nat → Bool) (k r : Int) (b : Bool) (h0 : 0 ≤ r) (h1 : r ≤ 9223372036854775807) (hn : n ≤ 140737488355328) (ho : Own w g n (fun i => .bool (tk i))) (hb : b = true ↔ takeP n tk k r) :
    Calls Tryz.prog 115 #[.slice (some ⟨g, 0, none⟩) n cap, .agg #[.int .i64 k, .int .i64 r]] w fun e w' =>
      e = .returned (.bool b) ∧ TakenTo w' g n b (setT tk r (r + relLen k)) ∧ w.grownBy w' (some g) := by
  have HO := Lib.hid ho
  have HB := Lib.hid hb
  have hglt := ho.1
  have hB0 : Below w.heap.size w (w.alloc (.cells #[.int .i64 k, .int .i64 r] 82)) := (Below.refl w.heap.size w).alloc (Nat.le_refl _) _
  have HB0 := Lib.hid hB0
  have HT0 := Lib.hid (own_two w (.int .i64 k) (.int .i64 r) 82)
  obtain ⟨l0, l1⟩ := relLen_bd k
  clear ho hb hB0
  go_enter Tryz.func115, Tryz.ntmps115
  go_wp2_with fail
  refine (length_any k r _).mono ?_
  rintro e w1 ⟨rfl, hb1⟩
  have HB1 := Lib.hid (HB0.out.trans (hb1.mono (by simp)))
  have HT1 := Lib.hid (HT0.out.below hb1 (by simp))
  clear hb1 HT0 HB0
  have c0 := HT1.out.cell (i := 0) (by omega)
  have c1 := HT1.out.cell (i := 1) (by omega)
  simp only [if_pos, if_neg, Nat.one_ne_zero] at c0 c1
  obtain ⟨L, hL⟩ : ∃ L, relLen k = L := ⟨_, rfl⟩
  have HBB : Hid (b = true ↔ L ≠ 0 ∧ r + L ≤ n ∧ ∀ j : Nat, r ≤ j → (j : Int) < r + L → tk j = false) := by have h := HB.out; unfold takeP at h; rw [hL] at h; exact h
  rw [hL] at l0 l1
  have HL := Lib.hid hL
  try simp only [hL]
  clear hL HB
  have HOW1 := Lib.hid (HO.out.below HB1.out hglt)
  by_cases d0 : L = 0
  · have hbf : b = false := by cases b with
      | false => rfl
      | true => exact absurd d0 (HBB.out.1 rfl).1
    subst hbf d0
    go_wp2
    go_ret
    exact ⟨rfl, ⟨tk, HOW1.out, fun h => by cases h⟩, (grown_below HB1.out (some g))⟩
  · have e0 : (L == 0) = false := by simpa using d0
    by_cases d1 : (n : Int) - L < r
    · have hbf : b = false := by cases b with
        | false => rfl
        | true => have := (HBB.out.1 rfl).2.1; omega
      subst hbf
      have e1 : decide ((n : Int) - L < r) = true := decide_eq_true d1
      go_wp2
      go_ret
      exact ⟨rfl, ⟨tk, HOW1.out, fun h => by cases h⟩, (grown_below HB1.out (some g))⟩
    · have e1 : decide ((n : Int) - L < r) = false := decide_eq_false d1
      obtain ⟨R, rfl⟩ : ∃ R : Nat, r = R := ⟨r.toNat, by omega⟩
      obtain ⟨N, rfl⟩ : ∃ N : Nat, L = N := ⟨L.toNat, by omega⟩
      have hgB : g ≠ w.heap.size := by omega
      have HGB := Lib.hid hgB
      have HG1 := Lib.hid (grown_below HB1.out (some g))
      clear hgB
      go_wp2_with fail
      clear c0 c1
      go_loopw [6] (fun o wr => ∃ i : Nat, R ≤ i ∧ i ≤ R + N ∧ o = .int .i64 i ∧ Own wr g n (fun q => .bool (setT tk R i q)) ∧ Own wr w.heap.size 2 (fun i => if i = 0 then .int .i64 k else .int .i64 (R : Int)) ∧ (∀ j : Nat, R ≤ j → j < i → tk j = false) ∧ w.grownBy wr (some g)) (fun o _ => (R + N) - (intOf o).toNat)
      case atStart => exact ⟨R, by omega, by omega, rfl, HOW1.out.congr (fun q _ => by simp only [setT]; congr 1; by_cases hq : (R : Int) ≤ q <;> simp <;> omega), HT1.out, fun j h1 h2 => by omega, HG1.out⟩
      case round =>
        obtain ⟨i, hi, hi2, rfl, hto, htt, hfr, hg⟩ := hrel
        have HTO := Lib.hid hto
        have HTT := Lib.hid htt
        have HFR := Lib.hid hfr
        have HG := Lib.hid hg
        have c1 := htt.cell (i := 1) (by omega)
        simp only [if_neg, Nat.one_ne_zero] at c1
        clear hto htt hfr hg HT1 HOW1 HG1
        by_cases hlt : i < R + N
        · have ct := HTO.out.cell (i := i) (by omega)
          have cz := HTO.out.frozen (i := i) (by omega)
          have hst : setT tk R i i = tk i := by simp [setT]
          rw [hst] at ct
          have hin : i < n := by omega
          cases htk : tk i with
          | true =>
            have hbf : b = false := by cases b with
              | false => rfl
              | true => have := (HBB.out.1 rfl).2.2 i (by omega) (by omega); rw [htk] at this; cases this
            subst hbf
            rw [htk] at ct
            clear hst htk
            go_wp2_with fail
            go_ret
            exact ⟨rfl, ⟨_, HTO.out, fun h => by cases h⟩, HG.out⟩
          | false =>
            have HF2 := Lib.hid htk
            rw [htk] at ct
            clear hst htk
            go_wp2_with fail
            go_roundw
            case rel => exact ⟨i + 1, by omega, by omega, by go_num, (HTO.out.set hin (.bool true)).congr (fun q hq => by
                by_cases e : q = i
                · subst e; simp [setT]; omega
                · simp only [if_neg e, setT]; rw [show decide ((q : Int) < i) = decide ((q : Int) < ((i + 1 : Nat) : Int)) by rw [decide_eq_decide]; omega]), HTT.out.of_block (Below.heap_setCell _ _ _ _ (fun h => HGB.out h.symm)) (by simp [World.setCell]), fun j h1 h2 => by
                by_cases e : j = i
                · subst e; exact HF2.out
                · exact HFR.out j h1 (by omega), only_setCell HG.out (.inl rfl) _⟩
            case measure => simp [intOf]; omega
        · obtain rfl : i = R + N := by omega
          have hbt : b = true := HBB.out.2 ⟨d0, by omega, fun j h1 h2 => HFR.out j (by omega) (by omega)⟩
          subst hbt
          go_wp2_with fail
          go_ret
          exact ⟨rfl, ⟨_, HTO.out, fun _ => by rw [HL.out, show ((R + N : Nat) : Int) = (R : Int) + N by omega]⟩, HG.out⟩
end Go.Proofs.YtplgdpjbkdagfaaGreat
