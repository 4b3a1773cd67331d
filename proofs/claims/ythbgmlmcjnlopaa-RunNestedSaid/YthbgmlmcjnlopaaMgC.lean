/- package dec: a form in memory; what it tells of itself. · 'x[lo:]' of bytes, and the text of it. · Plain lemmas: bytes behind a store, what lay stays, texts of bytes. · package dec: how a prefix is read. · package dec: a prefix read, whatever it is; the registers behind a code. · package dec: a code read. -/
import Derived.Test.YthbgmlmcjnlopaaDecM
import Derived.Test.YthbgmlmcjnlopaaAppB
import Derived.Deep.QuietTactic
import Derived.BigQuiet
namespace Go.Proofs.Ythbgmlmcjnlopaa
open Go.ChangeShapes Go.WideShapes Go.ChangeAt Go.RowKit
set_option linter.unusedVariables false
set_option linter.unusedSimpArgs false

/-- A form lies in block g from o on. -/
structure FormAt (w : World) (g o : Nat) (F : Form) : Prop where
  lt : g < w.heap.size
  c0 : w.cell? ⟨g, o, none⟩ = some (.int .i64 F.op)
  c1 : w.cell? ⟨g, o + 1, none⟩ = some (.int .i64 F.alu)
  c2 : w.cell? ⟨g, o + 2, none⟩ = some (.int .i64 F.cc)
  c3 : w.cell? ⟨g, o + 3, none⟩ = some (.int .i64 F.pre)
  c4 : w.cell? ⟨g, o + 4, none⟩ = some (.int .u8 F.code)
  c5 : w.cell? ⟨g, o + 5, none⟩ = some (.int .i64 F.regs)
  c6 : w.cell? ⟨g, o + 6, none⟩ = some (.int .u8 F.ext)
  c7 : w.cell? ⟨g, o + 7, none⟩ = some (.int .i64 F.tail)

theorem FormAt.of_block {w w' : World} {g o : Nat} {F : Form} (h : FormAt w g o F) (e : w'.heap[g]? = w.heap[g]?) (hs : w.heap.size ≤ w'.heap.size) : FormAt w' g o F :=
  ⟨Nat.lt_of_lt_of_le h.lt hs, (World.cell?_of_block (a := ⟨g, o, none⟩) e).trans h.c0, (World.cell?_of_block (a := ⟨g, o + 1, none⟩) e).trans h.c1,
   (World.cell?_of_block (a := ⟨g, o + 2, none⟩) e).trans h.c2, (World.cell?_of_block (a := ⟨g, o + 3, none⟩) e).trans h.c3, (World.cell?_of_block (a := ⟨g, o + 4, none⟩) e).trans h.c4,
   (World.cell?_of_block (a := ⟨g, o + 5, none⟩) e).trans h.c5, (World.cell?_of_block (a := ⟨g, o + 6, none⟩) e).trans h.c6, (World.cell?_of_block (a := ⟨g, o + 7, none⟩) e).trans h.c7⟩
theorem FormAt.below {w w' : World} {g o : Nat} {F : Form} {B : Nat} (h : FormAt w g o F) (hb : Below B w w') (hg : g < B) : FormAt w' g o F := h.of_block (hb.block g hg) hb.size
theorem FormAt.grown {w w' : World} {g o : Nat} {F : Form} {row : Option Nat} (h : FormAt w g o F) (hb : w.grownBy w' row) (hg : some g ≠ row) : FormAt w' g o F := h.of_block (hb.block g h.lt hg) hb.size
theorem FormAt.alloc {w : World} {g o : Nat} {F : Form} (h : FormAt w g o F) (b : Obj) : FormAt (w.alloc b) g o F := h.of_block (Below.heap_alloc w b g h.lt) (by simp)

theorem prefix_any (g o : Nat) (F : Form) (w : World) (hF : F.Ok) (hf : FormAt w g o F) :
    Calls Try.prog 85 #[.pointer (some ⟨g, o, none⟩)] w fun e w' =>
      e = .returned (.agg #[.int .u8 (preF F.pre).base, .int .u8 (preF F.pre).bitA, .int .u8 (preF F.pre).bitB, .bool (preF F.pre).spare]) ∧ Below w.heap.size w w' := by
  have h3 := hf.c3
  have hlt := hf.lt
  have hp := hF.pre
  rcases (by omega : F.pre = 0 ∨ F.pre = 1 ∨ F.pre = 2 ∨ F.pre = 3 ∨ F.pre = 4 ∨ F.pre = 5) with e | e | e | e | e | e
  · replace h3 : w.cell? ⟨g, o + 3, none⟩ = some (.int .i64 0) := by rw [e] at h3; exact h3
    rw [e]
    clear hf e hp hF
    go_enter Try.func85, Try.ntmps85
    go_wp2
    exact bodyPost_ret (v := .agg #[.int .u8 0, .int .u8 0, .int .u8 0, .bool false]) (by simp [results, Try.results85, go_sem]) rfl ⟨rfl, by go_grown⟩
  · replace h3 : w.cell? ⟨g, o + 3, none⟩ = some (.int .i64 1) := by rw [e] at h3; exact h3
    rw [e]
    clear hf e hp hF
    go_enter Try.func85, Try.ntmps85
    go_wp2
    exact bodyPost_ret (v := .agg #[.int .u8 64, .int .u8 1, .int .u8 0, .bool true]) (by simp [results, Try.results85, go_sem]) rfl ⟨rfl, by go_grown⟩
  · replace h3 : w.cell? ⟨g, o + 3, none⟩ = some (.int .i64 2) := by rw [e] at h3; exact h3
    rw [e]
    clear hf e hp hF
    go_enter Try.func85, Try.ntmps85
    go_wp2
    exact bodyPost_ret (v := .agg #[.int .u8 72, .int .u8 4, .int .u8 1, .bool false]) (by simp [results, Try.results85, go_sem]) rfl ⟨rfl, by go_grown⟩
  · replace h3 : w.cell? ⟨g, o + 3, none⟩ = some (.int .i64 3) := by rw [e] at h3; exact h3
    rw [e]
    clear hf e hp hF
    go_enter Try.func85, Try.ntmps85
    go_wp2
    exact bodyPost_ret (v := .agg #[.int .u8 72, .int .u8 4, .int .u8 0, .bool false]) (by simp [results, Try.results85, go_sem]) rfl ⟨rfl, by go_grown⟩
  · replace h3 : w.cell? ⟨g, o + 3, none⟩ = some (.int .i64 4) := by rw [e] at h3; exact h3
    rw [e]
    clear hf e hp hF
    go_enter Try.func85, Try.ntmps85
    go_wp2
    exact bodyPost_ret (v := .agg #[.int .u8 72, .int .u8 1, .int .u8 0, .bool false]) (by simp [results, Try.results85, go_sem]) rfl ⟨rfl, by go_grown⟩
  · replace h3 : w.cell? ⟨g, o + 3, none⟩ = some (.int .i64 5) := by rw [e] at h3; exact h3
    rw [e]
    clear hf e hp hF
    go_enter Try.func85, Try.ntmps85
    go_wp2
    exact bodyPost_ret (v := .agg #[.int .u8 72, .int .u8 0, .int .u8 1, .bool false]) (by simp [results, Try.results85, go_sem]) rfl ⟨rfl, by go_grown⟩

theorem hasA_any (g o : Nat) (F : Form) (w : World) (hF : F.Ok) (hf : FormAt w g o F) :
    Calls Try.prog 102 #[.pointer (some ⟨g, o, none⟩)] w fun e w' => e = .returned (.bool (hasA F.regs)) ∧ w = w' := by
  have h5 := hf.c5
  have hp := hF.regs
  rcases (by omega : F.regs = 0 ∨ F.regs = 1 ∨ F.regs = 2 ∨ F.regs = 3 ∨ F.regs = 4 ∨ F.regs = 5 ∨ F.regs = 6) with e | e | e | e | e | e | e
  all_goals
    rw [e] at h5 ⊢
    clear hf e hp hF
    go_enter Try.func102, Try.ntmps102
    go_wp2
    go_ret
    exact ⟨rfl, rfl⟩

theorem hasB_any (g o : Nat) (F : Form) (w : World) (hF : F.Ok) (hf : FormAt w g o F) :
    Calls Try.prog 103 #[.pointer (some ⟨g, o, none⟩)] w fun e w' => e = .returned (.bool (hasB F.regs)) ∧ w = w' := by
  have h5 := hf.c5
  have hp := hF.regs
  rcases (by omega : F.regs = 0 ∨ F.regs = 1 ∨ F.regs = 2 ∨ F.regs = 3 ∨ F.regs = 4 ∨ F.regs = 5 ∨ F.regs = 6) with e | e | e | e | e | e | e
  all_goals
    rw [e] at h5 ⊢
    clear hf e hp hF
    go_enter Try.func103, Try.ntmps103
    go_wp2
    go_ret
    exact ⟨rfl, rfl⟩

theorem tailLen_any (g o : Nat) (F : Form) (w : World) (hF : F.Ok) (hf : FormAt w g o F) :
    Calls Try.prog 88 #[.pointer (some ⟨g, o, none⟩)] w fun e w' => e = .returned (.int .i64 (tailLen F.tail)) ∧ w = w' := by
  have h7 := hf.c7
  have hp := hF.tail
  rcases (by omega : F.tail = 0 ∨ F.tail = 1 ∨ F.tail = 2 ∨ F.tail = 3 ∨ F.tail = 4 ∨ F.tail = 5 ∨ F.tail = 6) with e | e | e | e | e | e | e
  all_goals
    rw [e] at h7 ⊢
    clear hf e hp hF
    go_enter Try.func88, Try.ntmps88
    go_wp2
    go_ret
    exact ⟨rfl, rfl⟩

theorem wrap_i8 (n : Int) : IntKind.i8.wrap n = if n % 256 ≥ 128 then n % 256 - 256 else n % 256 := by
  unfold IntKind.wrap
  simp [IntKind.bits, IntKind.signed]

theorem signed_any (b : Nat) (w : World) (hb : b ≤ 255) :
    Calls Try.prog 97 #[.int .u8 b] w fun e w' => e = .returned (.int .u64 (sgn8 b)) ∧ w = w' := by
  by_cases h : b < 128
  · have q1 : IntKind.i8.wrap (b : Int) = b := by rw [wrap_i8]; omega
    have q2 : IntKind.i64.wrap (b : Int) = b := by rw [IntKind.wrap_i64]; omega
    have q3 : IntKind.u64.wrap (b : Int) = b := by rw [IntKind.wrap_u64]; omega
    have e : sgn8 b = b := by unfold sgn8; rw [if_pos h]
    rw [e]
    go_enter Try.func97, Try.ntmps97
    go_wp2
    go_ret
    exact ⟨rfl, rfl⟩
  · have q1 : IntKind.i8.wrap (b : Int) = (b : Int) - 256 := by rw [wrap_i8]; omega
    have q2 : IntKind.i64.wrap ((b : Int) - 256) = (b : Int) - 256 := by rw [IntKind.wrap_i64]; omega
    have q3 : IntKind.u64.wrap ((b : Int) - 256) = ((b + 18446744073709551360 : Nat) : Int) := by rw [IntKind.wrap_u64]; omega
    have e : sgn8 b = b + 18446744073709551360 := by unfold sgn8; rw [if_neg h]
    rw [e]
    go_enter Try.func97, Try.ntmps97
    go_wp2
    go_ret
    exact ⟨by simp, rfl⟩
end Go.Proofs.Ythbgmlmcjnlopaa
namespace Go.Proofs.Ythbgmlmcjnlopaa
open Go.ChangeShapes Go.WideShapes Go.ChangeAt Go.RowKit
set_option linter.unusedVariables false
set_option linter.unusedSimpArgs false

theorem strF_congr {f f' : Nat → Int} {o o' n : Nat} (h : ∀ i, i < n → f (o + i) = f' (o' + i)) : strF f o n = strF f' o' n := by
  unfold strF
  congr 1
  apply List.map_congr_left
  intro i hi
  exact h i (List.mem_range.1 hi)

theorem strF_nil (f : Nat → Int) (o : Nat) : strF f o 0 = ByteArray.empty := rfl

theorem Row.part {w : World} {b off len : Nat} {f : Nat → Int} (h : Row w b off len f) {o n : Nat} (hn : o + n ≤ len) : Row w b (off + o) n (fun i => f (o + i)) := by
  intro i hi
  rw [Nat.add_assoc]
  exact h (o + i) (by omega)

theorem Row.congr {w : World} {b off len : Nat} {f f' : Nat → Int} (h : Row w b off len f) (e : ∀ i, i < len → f i = f' i) : Row w b off len f' := fun i hi => by rw [h i hi, e i hi]
theorem Row.less {w : World} {b off len n : Nat} {f : Nat → Int} (h : Row w b off len f) (hn : n ≤ len) : Row w b off n f := fun i hi => h i (by omega)
theorem Row.below {w w' : World} {B b off len : Nat} {f : Nat → Int} (h : Row w b off len f) (hb : Below B w w') (hB : b < B) : Row w' b off len f := fun i hi => (hb.cell (p := ⟨b, off + i, none⟩) hB).trans (h i hi)
theorem Row.grown {w w' : World} {row : Option Nat} {b off len : Nat} {f : Nat → Int} (h : Row w b off len f) (hb : w.grownBy w' row) (hl : b < w.heap.size) (hB : some b ≠ row) : Row w' b off len f :=
  fun i hi => (World.cell?_of_block (a := ⟨b, off + i, none⟩) (hb.block b hl hB)).trans (h i hi)

theorem run_str0 {w : World} {A : Option Addr} {cap : Nat} : (convert 24 9 (.slice A 0 cap)).run Try.prog w = .ok (.string ByteArray.empty) w := by
  rcases A with _ | ⟨b, off, spot⟩
  · exact run_convert_bytes_nil w 24 5 Try.underlying24 Try.underlying5 0 cap 9 Try.underlying9
  · rw [run_convert_bytes_string w 24 9 5 _ 0 cap Try.underlying24 Try.underlying5 Try.underlying9]
    rw [run_bytesToString w ⟨b, off, spot⟩ 0 cap [] (by simp [loadCells, loadCellsFrom])]
    rfl

theorem run_tail {b off len cap lo : Nat} (h1 : lo ≤ len) (h2 : len ≤ cap) (h3 : cap ≤ 9223372036854775807) :
    ∃ A', (∀ W, (Instr.slice 24 (.slice (some ⟨b, off, none⟩) len cap) (some (.int .i64 lo)) none none).run Try.prog W = .ok (.slice A' (len - lo) (cap - lo)) W) ∧
      ∀ (w : World) (f : Nat → Int), Row w b off len f → ∀ c, (convert 24 9 (.slice A' (len - lo) c)).run Try.prog w = .ok (.string (strF f lo (len - lo))) w := by
  by_cases h : cap = lo
  · refine ⟨some ⟨b, off, none⟩, fun W => ?_, fun w f hr c => ?_⟩
    · subst h
      obtain rfl : len = cap := by omega
      simp [Instr.slice, Instr.sliceBounds, run_underlying Try.underlying24, go_sem]
    · have e : len - lo = 0 := by omega
      rw [e, run_str0]; rfl
  · refine ⟨some ⟨b, off + lo, none⟩, fun W => ?_, fun w f hr c => run_str_at hr (by omega)⟩
    have h4 : ¬ cap - lo = 0 := by omega
    simp [Instr.slice, Instr.sliceBounds, run_underlying Try.underlying24, go_sem, h1, h]
end Go.Proofs.Ythbgmlmcjnlopaa
namespace Go.Proofs.Ythbgmlmcjnlopaa
open Go.ChangeShapes Go.WideShapes Go.ChangeAt Go.RowKit
set_option linter.unusedVariables false
set_option linter.unusedSimpArgs false

/-- The bytes behind a store. -/
def putI (f : Nat → Int) (o : Nat) (v : Int) (k : Nat) (j : Nat) : Int := if o ≤ j ∧ j < o + k then byteOf v (j - o) else f j
theorem putF_int (f : Nat → Int) (o : Nat) (v : Int) (k j : Nat) : putF (fun i => .int .u8 (f i)) o v k j = .int .u8 (putI f o v k j) := by
  unfold putF putI; split <;> rfl
theorem byteOf_bd (v : Int) (i : Nat) : 0 ≤ byteOf v i ∧ byteOf v i ≤ 255 := by unfold byteOf; omega
theorem putI255 {f : Nat → Int} (hf : Bytes255 f) (o : Nat) (v : Int) (k : Nat) : Bytes255 (putI f o v k) := by
  intro i; unfold putI; split
  · exact byteOf_bd _ _
  · exact hf i

/-- The number of the bytes that were put. -/
theorem rdF_put (f : Nat → Int) (v : Int) (k : Nat) : ∀ (n o d : Nat), d + n ≤ k → rdF (putI f o v k) (o + d) n = v / 2 ^ (8 * d) % 256 ^ n := by
  intro n
  induction n with
  | zero => intro o d _; simp [rdF]
  | succ n ih =>
    intro o d h
    simp only [rdF]
    rw [show o + d + 1 = o + (d + 1) from by omega, ih o (d + 1) (by omega)]
    have e1 : putI f o v k (o + d) = v / 2 ^ (8 * d) % 256 := by
      unfold putI byteOf; rw [if_pos (by omega)]; congr 2; congr 2; omega
    rw [e1, show 8 * (d + 1) = 8 * d + 8 from by omega, Int.pow_add, ← Int.ediv_ediv_of_nonneg (by exact Int.pow_nonneg (by omega))]
    generalize v / 2 ^ (8 * d) = q
    have hp : (0 : Int) < 256 ^ n := Int.pow_pos (by omega)
    rw [Int.pow_succ 256 n, show (2 : Int) ^ 8 = 256 from rfl]
    generalize (256 : Int) ^ n = P at *
    have h1 := Int.emod_add_mul_ediv q 256
    have h2 := Int.emod_add_mul_ediv (q / 256) P
    have hr0 := Int.emod_nonneg (q / 256) (show P ≠ 0 by omega)
    have hr1 := Int.emod_lt_of_pos (q / 256) hp
    have hq0 := Int.emod_nonneg q (show (256 : Int) ≠ 0 by omega)
    have hq1 := Int.emod_lt_of_pos q (show (0 : Int) < 256 by omega)
    have key : q = (q % 256 + 256 * (q / 256 % P)) + (P * 256) * (q / 256 / P) := by
      have e : P * 256 * (q / 256 / P) = 256 * (P * (q / 256 / P)) := by rw [Int.mul_comm P 256, Int.mul_assoc]
      rw [e]; omega
    conv => rhs; rw [key]
    rw [Int.add_mul_emod_self_left]
    exact (Int.emod_eq_of_lt (by omega) (by omega)).symm

theorem catF_zero (f h : Nat → Int) : catF 0 f h = h := by funext i; unfold catF; rw [if_neg (by omega), Nat.sub_zero]

theorem u64_and_mask {v : Int} (h0 : 0 ≤ v) (h1 : v ≤ 18446744073709551615) (k : Nat) (hk : k < 64) : bits BinOp.and IntKind.u64 v ((2 ^ k - 1 : Nat) : Int) = v % (2 ^ k : Nat) := by
  obtain ⟨x, rfl⟩ := Int.eq_ofNat_of_zero_le h0
  have hp : 2 ^ k ≤ 2 ^ 63 := Nat.pow_le_pow_right (by omega) (by omega)
  have hp0 : 0 < 2 ^ k := Nat.pow_pos (by omega)
  rw [u64_and_nat x (2 ^ k - 1) (by omega) (by omega), Nat.and_two_pow_sub_one_eq_mod]
  rfl

/-- What lay in w lies in W. -/
def Keeps (w W : World) : Prop := w.heap.size ≤ W.heap.size ∧ ∀ p : Addr, p.block < w.heap.size → W.cell? p = w.cell? p
theorem Keeps.row {w W : World} (h : Keeps w W) {b off len : Nat} {f : Nat → Int} (hr : Row w b off len f) (hb : b < w.heap.size) : Row W b off len f := fun i hi => (h.2 ⟨b, off + i, none⟩ hb).trans (hr i hi)
theorem Keeps.self (w : World) : Keeps w w := ⟨Nat.le_refl _, fun _ _ => rfl⟩
theorem Keeps.drewN (w : World) (n : Nat) : Keeps w (w.drewN n) := ⟨Nat.le_refl _, fun _ _ => rfl⟩
theorem Keeps.drew (w : World) : Keeps w w.drew := ⟨Nat.le_refl _, fun _ _ => rfl⟩
theorem Keeps.below {w W W' : World} (h : Keeps w W) (hb : Below W.heap.size W W') : Keeps w W' := ⟨Nat.le_trans h.1 hb.size, fun p hp => (hb.cell (Nat.lt_of_lt_of_le hp h.1)).trans (h.2 p hp)⟩

theorem strF_bt (s : ByteArray) : strF (PlainAid.bt s) 0 s.size = s := by
  apply ByteArray.ext
  apply Array.toList_inj.1
  unfold strF
  rw [strOfNums_data, List.map_map]
  apply List.ext_getElem?
  intro i
  rcases Nat.lt_or_ge i s.size with hi | hi
  · have hi' : i < s.data.size := hi
    simp only [List.getElem?_map, List.getElem?_range hi, Option.map_some, Function.comp_apply, Nat.zero_add, Array.getElem?_toList, Array.getElem?_eq_getElem hi']
    unfold PlainAid.bt
    rw [dif_pos hi]
    simp
    rfl
  · rw [List.getElem?_eq_none (by simpa using hi), List.getElem?_eq_none (by simpa using hi)]

theorem extract_bt (s : ByteArray) (o n : Nat) (h : o + n ≤ s.size) : s.extract o (o + n) = strF (PlainAid.bt s) o n := by
  apply ByteArray.ext
  apply Array.toList_inj.1
  unfold strF
  rw [strOfNums_data, List.map_map]
  apply List.ext_getElem?
  intro i
  have hd : (s.extract o (o + n)).data = s.data.extract o (o + n) := by simp
  rw [hd, Array.getElem?_toList, Array.getElem?_extract]
  rcases Nat.lt_or_ge i n with hi | hi
  · have hi' : o + i < s.data.size := by have : s.size = s.data.size := rfl; omega
    rw [if_pos (by have : s.size = s.data.size := rfl; omega)]
    simp only [List.getElem?_map, List.getElem?_range hi, Option.map_some, Function.comp_apply, Array.getElem?_eq_getElem hi']
    unfold PlainAid.bt
    rw [dif_pos (show o + i < s.size from hi')]
    simp
    rfl
  · rw [if_neg (by have : s.size = s.data.size := rfl; omega), List.getElem?_eq_none (by simpa using hi)]

theorem rdF_snoc (f : Nat → Int) (o k : Nat) : rdF f o (k + 1) = rdF f o k + 256 ^ k * f (o + k) := by
  rw [rdF_add]; simp [rdF]

theorem rdF_congr {f f' : Nat → Int} (n : Nat) : ∀ o, (∀ i, i < n → f (o + i) = f' (o + i)) → rdF f o n = rdF f' o n := by
  induction n with
  | zero => intro o _; rfl
  | succ n ih =>
    intro o h
    simp only [rdF]
    rw [ih (o + 1) (fun i hi => by have := h (i + 1) (by omega); rw [show o + (i + 1) = o + 1 + i by omega] at this; exact this)]
    have := h 0 (by omega)
    rw [Nat.add_zero] at this
    rw [this]

theorem bt_strF {f : Nat → Int} (hb : Bytes255 f) {o n i : Nat} (h : i < n) : PlainAid.bt (strF f o n) i = f (o + i) := by
  have h5 := hb (o + i)
  unfold PlainAid.bt
  rw [dif_pos (by rw [strF_size]; exact h)]
  have e : (strF f o n)[i]'(by rw [strF_size]; exact h) = UInt8.ofNat (f (o + i)).toNat := by
    show (strF f o n).data[i]'_ = _
    simp [strF, strOfNums]
  rw [e]
  simp
  omega

theorem strF_cat (f : Nat → Int) (o n m : Nat) : strF f o n ++ strF f (o + n) m = strF f o (n + m) := by
  apply ByteArray.ext
  apply Array.toList_inj.1
  have h : (strF f o n ++ strF f (o + n) m).data = (strF f o n).data ++ (strF f (o + n) m).data := by simp
  rw [h, Array.toList_append]
  unfold strF
  rw [strOfNums_data, strOfNums_data, strOfNums_data, ← List.map_append]
  congr 1
  rw [List.range_add, List.map_append, List.map_map]
  congr 1
  apply List.map_congr_left
  intro i _
  simp [Nat.add_assoc]

end Go.Proofs.Ythbgmlmcjnlopaa
namespace Go.Proofs.Ythbgmlmcjnlopaa
open Go.ChangeShapes Go.WideShapes Go.ChangeAt Go.RowKit
set_option linter.unusedVariables false
set_option linter.unusedSimpArgs false

/-- An instruction's seven numbers. -/
def insF (x : InsV) : Nat → Value
  | 0 => .int .i64 x.op
  | 1 => .int .i64 x.a
  | 2 => .int .i64 x.b
  | 3 => .int .i64 x.alu
  | 4 => .int .i64 x.cc
  | 5 => .int .u64 x.imm
  | _ => .int .i64 x.disp

def InsAt (w : World) (B : Nat) (x : InsV) : Prop := Own w B 7 (insF x)

/-- The bytes of a list, as the walk reads them. -/
def bF (bs : List Nat) (i : Nat) : Int := ((bs.getD i 0 : Nat) : Int)
theorem bF_cons (v : Nat) (r : List Nat) : bF (v :: r) 0 = v := rfl
theorem bF_drop (bs : List Nat) (k i : Nat) : bF (bs.drop k) i = bF bs (k + i) := by simp [bF, List.getD]

def Bn (bs : List Nat) : Prop := ∀ v ∈ bs, v ≤ 255
theorem Bn.drop {bs : List Nat} (h : Bn bs) (k : Nat) : Bn (bs.drop k) := fun v hv => h v (List.mem_of_mem_drop hv)
theorem Bn.bF {bs : List Nat} (h : Bn bs) : Bytes255 (bF bs) := by
  intro i
  unfold Go.Proofs.Ythbgmlmcjnlopaa.bF
  rcases Nat.lt_or_ge i bs.length with hi | hi
  · have := h bs[i] (List.getElem_mem hi)
    simp [List.getD, List.getElem?_eq_getElem hi]; omega
  · simp [List.getD, List.getElem?_eq_none hi]

theorem InsAt.a {w : World} {B : Nat} {x : InsV} (h : InsAt w B x) (n : Nat) : InsAt (w.setCell ⟨B, 1, none⟩ (.int .i64 n)) B { x with a := n } :=
  (Own.set h (i := 1) (by omega) _).congr fun i hi => by
    rcases (by omega : i = 0 ∨ i = 1 ∨ i = 2 ∨ i = 3 ∨ i = 4 ∨ i = 5 ∨ i = 6) with rfl | rfl | rfl | rfl | rfl | rfl | rfl <;> rfl
theorem InsAt.b {w : World} {B : Nat} {x : InsV} (h : InsAt w B x) (n : Nat) : InsAt (w.setCell ⟨B, 2, none⟩ (.int .i64 n)) B { x with b := n } :=
  (Own.set h (i := 2) (by omega) _).congr fun i hi => by
    rcases (by omega : i = 0 ∨ i = 1 ∨ i = 2 ∨ i = 3 ∨ i = 4 ∨ i = 5 ∨ i = 6) with rfl | rfl | rfl | rfl | rfl | rfl | rfl <;> rfl
theorem InsAt.imm {w : World} {B : Nat} {x : InsV} (h : InsAt w B x) (n : Nat) : InsAt (w.setCell ⟨B, 5, none⟩ (.int .u64 n)) B { x with imm := n } :=
  (Own.set h (i := 5) (by omega) _).congr fun i hi => by
    rcases (by omega : i = 0 ∨ i = 1 ∨ i = 2 ∨ i = 3 ∨ i = 4 ∨ i = 5 ∨ i = 6) with rfl | rfl | rfl | rfl | rfl | rfl | rfl <;> rfl
theorem InsAt.disp {w : World} {B : Nat} {x : InsV} (h : InsAt w B x) (n : Int) : InsAt (w.setCell ⟨B, 6, none⟩ (.int .i64 n)) B { x with disp := n } :=
  (Own.set h (i := 6) (by omega) _).congr fun i hi => by
    rcases (by omega : i = 0 ∨ i = 1 ∨ i = 2 ∨ i = 3 ∨ i = 4 ∨ i = 5 ∨ i = 6) with rfl | rfl | rfl | rfl | rfl | rfl | rfl <;> rfl

theorem InsAt.new {w : World} {B : Nat} {x : InsV} (h : InsAt w B x) (o : Obj) : InsAt (w.alloc o) B x := Own.alloc h o
theorem InsAt.ab {w : World} {B : Nat} {x : InsV} (h : InsAt w B x) : InsAt ((w.setCell ⟨B, 1, none⟩ (.int .i64 8)).setCell ⟨B, 2, none⟩ (.int .i64 8)) B { x with a := 8, b := 8 } := InsAt.b (InsAt.a h 8) 8
theorem InsAt.a8 {w : World} {B : Nat} {x : InsV} (h : InsAt w B { x with a := 0, b := 0 }) : InsAt (w.setCell ⟨B, 1, none⟩ (.int .i64 8)) B { x with a := 8, b := 0 } := InsAt.a h 8
theorem InsAt.b8 {w : World} {B : Nat} {x : InsV} (h : InsAt w B { x with a := 0, b := 0 }) : InsAt (w.setCell ⟨B, 2, none⟩ (.int .i64 8)) B { x with a := 0, b := 8 } := InsAt.b h 8
theorem set_grown (w : World) (B i : Nat) (v : Value) : w.grownBy (w.setCell ⟨B, i, none⟩ v) (some B) := only_setCell (World.grownBy.refl _ _) (.inl rfl) _
theorem set_set_grown (w : World) (B i j : Nat) (u v : Value) : w.grownBy ((w.setCell ⟨B, i, none⟩ u).setCell ⟨B, j, none⟩ v) (some B) := only_setCell (set_grown w B i u) (.inl rfl) _

def preV (ba a b : Nat) (s : Bool) : Value := .agg #[.int .u8 ba, .int .u8 a, .int .u8 b, .bool s]

theorem pr_zero (a b : Nat) (s : Bool) (A : Option Addr) (n cap B : Nat) (w : World) :
    Calls Try.prog 86 #[.agg #[.int .u8 0, .int .u8 a, .int .u8 b, .bool s], .slice A n cap, .pointer (some ⟨B, 0, none⟩)] w fun e w' =>
      e = .returned (.tuple #[.int .i64 0, .int .i64 2]) ∧ Below w.heap.size w w' := by
  go_enter Try.func86, Try.ntmps86
  go_wp2
  go_ret2
  exact ⟨rfl, by go_grown⟩

theorem pr_nil (ba a b : Nat) (s : Bool) (A : Option Addr) (cap B : Nat) (w : World) (h0 : ((ba : Int) == 0) = false) :
    Calls Try.prog 86 #[.agg #[.int .u8 ba, .int .u8 a, .int .u8 b, .bool s], .slice A 0 cap, .pointer (some ⟨B, 0, none⟩)] w fun e w' =>
      e = .returned (.tuple #[.int .i64 0, .int .i64 1]) ∧ Below w.heap.size w w' := by
  go_enter Try.func86, Try.ntmps86
  go_wp2
  go_ret2
  exact ⟨rfl, by go_grown⟩

theorem pr_not (ba a b v : Nat) (m : Int) (s : Bool) (bb off n cap B : Nat) (w : World) (h0 : ((ba : Int) == 0) = false) (hn : 0 < n) (hn' : n ≤ 9223372036854775807) (hlt : bb < w.heap.size) (hv : w.cell? ⟨bb, off, none⟩ = some (.int .u8 v))
    (hm : bits .andNot .u8 (v : Int) (bits .or .u8 (a : Int) (b : Int)) = m) (hc : (m == (ba : Int)) = false) (hc' : (m != (ba : Int)) = true) :
    Calls Try.prog 86 #[.agg #[.int .u8 ba, .int .u8 a, .int .u8 b, .bool s], .slice (some ⟨bb, off, none⟩) n cap, .pointer (some ⟨B, 0, none⟩)] w fun e w' =>
      e = .returned (.tuple #[.int .i64 0, .int .i64 (if s = true then 2 else 0)]) ∧ Below w.heap.size w w' := by
  have h1 : ((n : Int) == 0) = false := by simpa using (by omega : ¬ n = 0)
  cases s
  all_goals
    go_enter Try.func86, Try.ntmps86
    go_wp2
    go_ret2
    exact ⟨rfl, by go_grown⟩

theorem pr_left (ba a b v : Nat) (bb off n cap B : Nat) (w : World) (h0 : ((ba : Int) == 0) = false) (hn : 0 < n) (hn' : n ≤ 9223372036854775807) (hlt : bb < w.heap.size) (hv : w.cell? ⟨bb, off, none⟩ = some (.int .u8 v))
    (hm : bits .andNot .u8 (v : Int) (bits .or .u8 (a : Int) (b : Int)) = (ba : Int)) (hc : v = ba) :
    Calls Try.prog 86 #[.agg #[.int .u8 ba, .int .u8 a, .int .u8 b, .bool true], .slice (some ⟨bb, off, none⟩) n cap, .pointer (some ⟨B, 0, none⟩)] w fun e w' =>
      e = .returned (.tuple #[.int .i64 0, .int .i64 2]) ∧ Below w.heap.size w w' := by
  have h1 : ((n : Int) == 0) = false := by simpa using (by omega : ¬ n = 0)
  subst hc
  go_enter Try.func86, Try.ntmps86
  go_wp2
  go_ret2
  exact ⟨rfl, by go_grown⟩

set_option maxHeartbeats 1000000 in
theorem pr_yes (ba a b v : Nat) (s qa qb : Bool) (x : InsV) (bb off n cap B : Nat) (w : World) (h0 : ((ba : Int) == 0) = false) (hn : 0 < n) (hn' : n ≤ 9223372036854775807) (hlt : bb < w.heap.size) (hv : w.cell? ⟨bb, off, none⟩ = some (.int .u8 v))
    (hm : bits .andNot .u8 (v : Int) (bits .or .u8 (a : Int) (b : Int)) = (ba : Int)) (hc : s = true → ((v : Int) == (ba : Int)) = false)
    (ha : (bits .and .u8 (v : Int) (a : Int) != 0) = qa) (hb : (bits .and .u8 (v : Int) (b : Int) != 0) = qb) (hx : InsAt w B x) (xa : x.a = 0) (xb : x.b = 0) :
    Calls Try.prog 86 #[.agg #[.int .u8 ba, .int .u8 a, .int .u8 b, .bool s], .slice (some ⟨bb, off, none⟩) n cap, .pointer (some ⟨B, 0, none⟩)] w fun e w' =>
      e = .returned (.tuple #[.int .i64 1, .int .i64 2]) ∧ w.grownBy w' (some B) ∧ InsAt w' B { x with a := if qa then 8 else 0, b := if qb then 8 else 0 } := by
  have h1 : ((n : Int) == 0) = false := by simpa using (by omega : ¬ n = 0)
  have hB := hx.1
  have x1 := hx.cell (i := 1) (by omega)
  have x2 := hx.cell (i := 2) (by omega)
  have f1 := hx.frozen (i := 1) (by omega)
  have f2 := hx.frozen (i := 2) (by omega)
  have HX := Lib.hid hx
  have key : ∀ W : World, InsAt W B x → InsAt W B { x with a := 0, b := 0 } := fun W h => by
    have e : ({ x with a := 0, b := 0 } : InsV) = x := by
      cases x
      simp only at xa xb
      subst xa xb
      rfl
    rw [e]; exact h
  clear hx xa xb
  have KEY := Lib.hid key
  clear key
  cases s
  · clear hc
    cases qa <;> cases qb
    · go_enter Try.func86, Try.ntmps86
      go_wp2
      go_ret2
      exact ⟨rfl, only_alloc (World.grownBy.refl _ _) _, (KEY.out _ HX.out).new _⟩
    · go_enter Try.func86, Try.ntmps86
      go_wp2
      go_ret2
      exact ⟨rfl, only_alloc (set_grown _ _ _ _) _, (InsAt.b8 (KEY.out _ HX.out)).new _⟩
    · go_enter Try.func86, Try.ntmps86
      go_wp2
      go_ret2
      exact ⟨rfl, only_alloc (set_grown _ _ _ _) _, (InsAt.a8 (KEY.out _ HX.out)).new _⟩
    · go_enter Try.func86, Try.ntmps86
      go_wp2
      go_ret2
      exact ⟨rfl, only_alloc (set_set_grown _ _ _ _ _ _) _, (InsAt.ab HX.out).new _⟩
  · replace hc := hc rfl
    cases qa <;> cases qb
    · go_enter Try.func86, Try.ntmps86
      go_wp2
      go_ret2
      exact ⟨rfl, only_alloc (World.grownBy.refl _ _) _, (KEY.out _ HX.out).new _⟩
    · go_enter Try.func86, Try.ntmps86
      go_wp2
      go_ret2
      exact ⟨rfl, only_alloc (set_grown _ _ _ _) _, (InsAt.b8 (KEY.out _ HX.out)).new _⟩
    · go_enter Try.func86, Try.ntmps86
      go_wp2
      go_ret2
      exact ⟨rfl, only_alloc (set_grown _ _ _ _) _, (InsAt.a8 (KEY.out _ HX.out)).new _⟩
    · go_enter Try.func86, Try.ntmps86
      go_wp2
      go_ret2
      exact ⟨rfl, only_alloc (set_set_grown _ _ _ _ _ _) _, (InsAt.ab HX.out).new _⟩
end Go.Proofs.Ythbgmlmcjnlopaa
namespace Go.Proofs.Ythbgmlmcjnlopaa
open Go.ChangeShapes Go.WideShapes Go.ChangeAt Go.RowKit
set_option linter.unusedVariables false
set_option linter.unusedSimpArgs false

theorem grown_of_below {w w' : World} {row : Option Nat} (h : Below w.heap.size w w') : w.grownBy w' row := ⟨h.os, h.tape, h.output, h.size, fun i hi _ => h.block i hi⟩

theorem nat_beq_true {a b : Nat} (h : a = b) : ((a : Int) == (b : Int)) = true := beq_iff_eq.mpr (by omega)
theorem nat_beq_false {a b : Nat} (h : ¬ a = b) : ((a : Int) == (b : Int)) = false := beq_eq_false_iff_ne.mpr (by omega)
theorem nat_bne_true {a b : Nat} (h : ¬ a = b) : ((a : Int) != (b : Int)) = true := bne_iff_ne.mpr (by omega)
theorem nat_bne_zero (n : Nat) : ((n : Int) != 0) = decide (n ≠ 0) := by rw [Bool.eq_iff_iff, bne_iff_ne, decide_eq_true_iff]; omega

theorem pr_any (p : Pre) (bs : List Nat) (x : InsV) (A : Option Addr) (cap B : Nat) (w : World) (p1 : p.base ≤ 255) (p2 : p.bitA ≤ 255) (p3 : p.bitB ≤ 255) (hb : Bn bs) (hl : bs.length ≤ 9223372036854775807)
    (hs : SlB w A bs.length (bF bs)) (hx : InsAt w B x) (xa : x.a = 0) (xb : x.b = 0) :
    Calls Try.prog 86 #[.agg #[.int .u8 p.base, .int .u8 p.bitA, .int .u8 p.bitB, .bool p.spare], .slice A bs.length cap, .pointer (some ⟨B, 0, none⟩)] w fun e w' =>
      e = .returned (.tuple #[.int .i64 (preRead p bs).n, .int .i64 (preRead p bs).fit]) ∧ w.grownBy w' (some B) ∧ InsAt w' B { x with a := (preRead p bs).a, b := (preRead p bs).b } := by
  have e0 : ({ x with a := 0, b := 0 } : InsV) = x := by
    cases x
    simp only at xa xb
    subst xa xb
    rfl
  by_cases c0 : p.base = 0
  · have e : preRead p bs = ⟨0, 2, 0, 0⟩ := by unfold preRead; rw [if_pos c0]
    rw [e, c0]
    refine (pr_zero p.bitA p.bitB p.spare A bs.length cap B w).mono ?_
    rintro e w' ⟨rfl, hw⟩
    exact ⟨rfl, grown_of_below hw, by rw [e0]; exact Own.below hx hw hx.1⟩
  · have h0 : ((p.base : Int) == 0) = false := nat_beq_false (b := 0) c0
    match bs, hb, hl, hs with
    | [], hb, hl, hs =>
      have e : preRead p [] = ⟨0, 1, 0, 0⟩ := by unfold preRead; rw [if_neg c0]
      rw [e]
      refine (pr_nil p.base p.bitA p.bitB p.spare A cap B w h0).mono ?_
      rintro e w' ⟨rfl, hw⟩
      exact ⟨rfl, grown_of_below hw, by rw [e0]; exact Own.below hx hw hx.1⟩
    | v :: r, hb, hl, hs =>
      have hv : v ≤ 255 := hb v (by simp)
      obtain ⟨bb, off, rfl, hlt, hrow⟩ : ∃ b off, A = some ⟨b, off, none⟩ ∧ b < w.heap.size ∧ Row w b off (v :: r).length (bF (v :: r)) := by
        rcases hs with h | h
        · simp at h
        · exact h
      have hcell : w.cell? ⟨bb, off, none⟩ = some (.int .u8 v) := hrow 0 (by simp)
      have hor : bits .or .u8 (p.bitA : Int) (p.bitB : Int) = ((p.bitA ||| p.bitB : Nat) : Int) := by
        rw [u8_or _ _ (by omega) (by omega) (by omega) (by omega)]; rfl
      have hor2 : p.bitA ||| p.bitB < 2 ^ 8 := Nat.or_lt_two_pow (by omega) (by omega)
      have hm : bits .andNot .u8 (v : Int) (bits .or .u8 (p.bitA : Int) (p.bitB : Int)) = ((v &&& (255 - (p.bitA ||| p.bitB)) : Nat) : Int) := by
        rw [hor]; exact u8_andNot_nat _ _ (by omega) (by omega)
      have ha : bits .and .u8 (v : Int) (p.bitA : Int) = ((v &&& p.bitA : Nat) : Int) := u8_and_nat _ _ (by omega) (by omega)
      have hb' : bits .and .u8 (v : Int) (p.bitB : Int) = ((v &&& p.bitB : Nat) : Int) := u8_and_nat _ _ (by omega) (by omega)
      by_cases c1 : v &&& (255 - (p.bitA ||| p.bitB)) = p.base
      · by_cases c2 : p.spare = true ∧ v = p.base
        · have e : preRead p (v :: r) = ⟨0, 2, 0, 0⟩ := by simp only [preRead]; rw [if_neg c0, if_pos (.inr c2), if_pos c2.1]
          rw [e, c2.1]
          refine (pr_left p.base p.bitA p.bitB v bb off _ cap B w h0 (by simp) hl hlt hcell (by rw [hm, c1]) c2.2).mono ?_
          rintro e w' ⟨rfl, hw⟩
          exact ⟨rfl, grown_of_below hw, by rw [e0]; exact Own.below hx hw hx.1⟩
        · have e : preRead p (v :: r) = ⟨1, 2, if v &&& p.bitA ≠ 0 then 8 else 0, if v &&& p.bitB ≠ 0 then 8 else 0⟩ := by
            simp only [preRead]
            rw [if_neg c0, if_neg (by rintro (h | h); exact h c1; exact c2 h)]
          rw [e]
          refine (pr_yes p.base p.bitA p.bitB v p.spare (decide (v &&& p.bitA ≠ 0)) (decide (v &&& p.bitB ≠ 0)) x bb off _ cap B w h0 (by simp) hl hlt hcell (by rw [hm, c1])
            (fun h => nat_beq_false fun h' => c2 ⟨h, h'⟩) (by rw [ha]; exact nat_bne_zero _) (by rw [hb']; exact nat_bne_zero _) hx xa xb).mono ?_
          rintro e w' ⟨rfl, hw, hi⟩
          refine ⟨rfl, hw, ?_⟩
          simpa using hi
      · have e : preRead p (v :: r) = if p.spare then ⟨0, 2, 0, 0⟩ else ⟨0, 0, 0, 0⟩ := by simp only [preRead]; rw [if_neg c0, if_pos (.inl c1)]
        rw [e]
        refine (pr_not p.base p.bitA p.bitB v _ p.spare bb off _ cap B w h0 (by simp) hl hlt hcell hm (nat_beq_false c1) (nat_bne_true c1)).mono ?_
        rintro e w' ⟨rfl, hw⟩
        refine ⟨?_, grown_of_below hw, ?_⟩
        · cases p.spare <;> rfl
        · have : ({ x with a := (if p.spare = true then (⟨0, 2, 0, 0⟩ : Rd) else ⟨0, 0, 0, 0⟩).a, b := (if p.spare = true then (⟨0, 2, 0, 0⟩ : Rd) else ⟨0, 0, 0, 0⟩).b } : InsV) = x := by
            cases p.spare <;> exact e0
          rw [this]; exact Own.below hx hw hx.1

set_option maxHeartbeats 1000000 in
theorem regs_any (g o B v : Nat) (F : Form) (x : InsV) (w : World) (hF : F.Ok) (hf : FormAt w g o F) (hv : v ≤ 255) (hg : g ≠ B) (hx : InsAt w B x) (xa : x.a ≤ 8) (xb : x.b ≤ 8) :
    Calls Try.prog 95 #[.pointer (some ⟨g, o, none⟩), .int .u8 v, .pointer (some ⟨B, 0, none⟩)] w fun e w' =>
      e = .returned (.bool (regsRead F v x.a x.b).1) ∧ w.grownBy w' (some B) ∧ InsAt w' B { x with a := (regsRead F v x.a x.b).2.1, b := (regsRead F v x.a x.b).2.2 } := by
  have HF := Lib.hid hF
  have HX := Lib.hid hx
  have hB := hx.1
  have hlt := hf.lt
  have c5 := hf.c5
  have c6 := hf.c6
  have x1 : w.cell? ⟨B, 1, none⟩ = some (.int .i64 x.a) := hx.cell (i := 1) (by omega)
  have x2 : w.cell? ⟨B, 2, none⟩ = some (.int .i64 x.b) := hx.cell (i := 2) (by omega)
  have f1 := hx.frozen (i := 1) (by omega)
  have f2 := hx.frozen (i := 2) (by omega)
  have HA := Lib.hid (fun W (h : FormAt W g o F) => hasA_any g o F W hF h)
  have HB := Lib.hid (fun W (h : FormAt W g o F) => hasB_any g o F W hF h)
  have HFM := Lib.hid hf
  have hg' := hg.symm
  have q1 : bits .and .u8 ((v : Int) / 8) 7 = ((v / 8 &&& 7 : Nat) : Int) := by
    have := u8_and_nat (v / 8) 7 (by omega) (by omega)
    simpa using this
  have kA : v / 8 &&& 7 ≤ 7 := Nat.and_le_right
  obtain ⟨k, hk⟩ : ∃ k, v / 8 &&& 7 = k := ⟨_, rfl⟩
  have n1 : bits .andNot .u8 (v : Int) 56 = ((v &&& 199 : Nat) : Int) := u8_andNot_nat v 56 (by omega) (by omega)
  have hv1 : v &&& 199 ≤ 255 := Nat.le_trans Nat.and_le_left hv
  obtain ⟨v1, hv1e⟩ : ∃ u, v &&& 199 = u := ⟨_, rfl⟩
  rw [hk] at q1 kA
  rw [hv1e] at n1 hv1
  have m0 : bits .and .u8 (v : Int) 7 = ((v &&& 7 : Nat) : Int) := u8_and_nat v 7 (by omega) (by omega)
  have m1 : bits .and .u8 (v1 : Int) 7 = ((v1 &&& 7 : Nat) : Int) := u8_and_nat v1 7 (by omega) (by omega)
  have n0 : bits .andNot .u8 (v : Int) 7 = ((v &&& 248 : Nat) : Int) := u8_andNot_nat v 7 (by omega) (by omega)
  have n2 : bits .andNot .u8 (v1 : Int) 7 = ((v1 &&& 248 : Nat) : Int) := u8_andNot_nat v1 7 (by omega) (by omega)
  have kB0 : v &&& 7 ≤ 7 := Nat.and_le_right
  have kB1 : v1 &&& 7 ≤ 7 := Nat.and_le_right
  obtain ⟨j0, hj0⟩ : ∃ u, v &&& 7 = u := ⟨_, rfl⟩
  obtain ⟨j1, hj1⟩ : ∃ u, v1 &&& 7 = u := ⟨_, rfl⟩
  obtain ⟨y0, hy0⟩ : ∃ u, v &&& 248 = u := ⟨_, rfl⟩
  obtain ⟨y1, hy1⟩ : ∃ u, v1 &&& 248 = u := ⟨_, rfl⟩
  rw [hj0] at m0 kB0
  rw [hj1] at m1 kB1
  rw [hy0] at n0
  rw [hy1] at n2
  have b0 : bits .and .i64 ((x.b + j0 : Nat) : Int) 7 = ((x.b + j0 : Nat) : Int) % 8 := i64_mask _ 3 (by omega)
  have b1 : bits .and .i64 ((x.b + j1 : Nat) : Int) 7 = ((x.b + j1 : Nat) : Int) % 8 := i64_mask _ 3 (by omega)
  have bN : ∀ n : Nat, ((n : Int) % 8 == 4) = ((n &&& 7) == 4) := fun n => by
    rw [show n &&& 7 = n % 8 from Nat.and_two_pow_sub_one_eq_mod n 3, Bool.eq_iff_iff, beq_iff_eq, beq_iff_eq]; omega
  have BN := Lib.hid bN
  have HB0 := Lib.hid b0
  have HB1 := Lib.hid b1
  clear bN b0 b1
  have E : regsRead F v x.a x.b = ((if hasB F.regs then (if hasA F.regs then y1 else y0) else (if hasA F.regs then v1 else v)) == F.ext && !(F.regs == 4 && (((if hasB F.regs then (if hasA F.regs then x.b + j1 else x.b + j0) else x.b)) &&& 7) == 4),
      if hasA F.regs then x.a + k else x.a, if hasB F.regs then (if hasA F.regs then x.b + j1 else x.b + j0) else x.b) := by
    simp only [regsRead, hk, hv1e]
    cases hasA F.regs <;> cases hasB F.regs <;> simp [hj0, hj1, hy0, hy1]
  rw [E]
  clear E hf hx hF hk hv1e hj0 hj1 hy0 hy1
  cases eA : hasA F.regs <;> cases eB : hasB F.regs
  · -- 0 0
    have R4 : F.regs ≠ 4 := by rintro h; rw [h] at eA eB; revert eA eB; decide
    have r4 : ((F.regs : Int) == 4) = false := nat_beq_false (b := 4) R4
    have R4' : (F.regs == 4) = false := by simpa using R4
    by_cases D : v = F.ext
    · have d : ((v : Int) == (F.ext : Int)) = true := nat_beq_true D
      have d' : (v == F.ext) = true := by simpa using D
      simp only [if_true, if_false, Bool.false_eq_true, d', Bool.true_and]
      simp only [R4', Bool.false_and, Bool.not_false]
      go_enter Try.func95, Try.ntmps95
      go_wp2_with fail
      refine (HA.out _ HFM.out).mono ?_
      rintro e u ⟨rfl, rfl⟩
      rw [eA]
      go_wp2_with fail
      refine (HB.out _ HFM.out).mono ?_
      rintro e u ⟨rfl, rfl⟩
      rw [eB]
      go_wp2
      go_ret
      exact ⟨rfl, World.grownBy.refl _ _, HX.out⟩
    · have d : ((v : Int) == (F.ext : Int)) = false := nat_beq_false D
      have d' : (v == F.ext) = false := by simpa using D
      simp only [if_true, if_false, Bool.false_eq_true, d', Bool.false_and]
      go_enter Try.func95, Try.ntmps95
      go_wp2_with fail
      refine (HA.out _ HFM.out).mono ?_
      rintro e u ⟨rfl, rfl⟩
      rw [eA]
      go_wp2_with fail
      refine (HB.out _ HFM.out).mono ?_
      rintro e u ⟨rfl, rfl⟩
      rw [eB]
      go_wp2
      go_ret
      exact ⟨rfl, World.grownBy.refl _ _, HX.out⟩
  · -- 0 1
    have R4 : F.regs ≠ 4 := by rintro h; rw [h] at eA eB; revert eA eB; decide
    have r4 : ((F.regs : Int) == 4) = false := nat_beq_false (b := 4) R4
    have R4' : (F.regs == 4) = false := by simpa using R4
    by_cases D : y0 = F.ext
    · have d : ((y0 : Int) == (F.ext : Int)) = true := nat_beq_true D
      have d' : (y0 == F.ext) = true := by simpa using D
      simp only [if_true, if_false, Bool.false_eq_true, d', Bool.true_and]
      simp only [R4', Bool.false_and, Bool.not_false]
      go_enter Try.func95, Try.ntmps95
      go_wp2_with fail
      refine (HA.out _ HFM.out).mono ?_
      rintro e u ⟨rfl, rfl⟩
      rw [eA]
      go_wp2_with fail
      refine (HB.out _ HFM.out).mono ?_
      rintro e u ⟨rfl, rfl⟩
      rw [eB]
      go_wp2
      go_ret
      exact ⟨rfl, set_grown w B 2 _, InsAt.b HX.out (x.b + j0)⟩
    · have d : ((y0 : Int) == (F.ext : Int)) = false := nat_beq_false D
      have d' : (y0 == F.ext) = false := by simpa using D
      simp only [if_true, if_false, Bool.false_eq_true, d', Bool.false_and]
      go_enter Try.func95, Try.ntmps95
      go_wp2_with fail
      refine (HA.out _ HFM.out).mono ?_
      rintro e u ⟨rfl, rfl⟩
      rw [eA]
      go_wp2_with fail
      refine (HB.out _ HFM.out).mono ?_
      rintro e u ⟨rfl, rfl⟩
      rw [eB]
      go_wp2
      go_ret
      exact ⟨rfl, set_grown w B 2 _, InsAt.b HX.out (x.b + j0)⟩
  · -- 1 0
    have R4 : F.regs ≠ 4 := by rintro h; rw [h] at eA eB; revert eA eB; decide
    have r4 : ((F.regs : Int) == 4) = false := nat_beq_false (b := 4) R4
    have R4' : (F.regs == 4) = false := by simpa using R4
    by_cases D : v1 = F.ext
    · have d : ((v1 : Int) == (F.ext : Int)) = true := nat_beq_true D
      have d' : (v1 == F.ext) = true := by simpa using D
      simp only [if_true, if_false, Bool.false_eq_true, d', Bool.true_and]
      simp only [R4', Bool.false_and, Bool.not_false]
      go_enter Try.func95, Try.ntmps95
      go_wp2_with fail
      refine (HA.out _ HFM.out).mono ?_
      rintro e u ⟨rfl, rfl⟩
      rw [eA]
      go_wp2_with fail
      refine (HB.out _ (HFM.out.grown (set_grown w B 1 _) (by simpa using hg))).mono ?_
      rintro e u ⟨rfl, rfl⟩
      rw [eB]
      go_wp2
      go_ret
      exact ⟨rfl, set_grown w B 1 _, InsAt.a HX.out (x.a + k)⟩
    · have d : ((v1 : Int) == (F.ext : Int)) = false := nat_beq_false D
      have d' : (v1 == F.ext) = false := by simpa using D
      simp only [if_true, if_false, Bool.false_eq_true, d', Bool.false_and]
      go_enter Try.func95, Try.ntmps95
      go_wp2_with fail
      refine (HA.out _ HFM.out).mono ?_
      rintro e u ⟨rfl, rfl⟩
      rw [eA]
      go_wp2_with fail
      refine (HB.out _ (HFM.out.grown (set_grown w B 1 _) (by simpa using hg))).mono ?_
      rintro e u ⟨rfl, rfl⟩
      rw [eB]
      go_wp2
      go_ret
      exact ⟨rfl, set_grown w B 1 _, InsAt.a HX.out (x.a + k)⟩
  · -- 1 1
    by_cases D : y1 = F.ext
    · have d : ((y1 : Int) == (F.ext : Int)) = true := nat_beq_true D
      have d' : (y1 == F.ext) = true := by simpa using D
      simp only [if_true, if_false, Bool.false_eq_true, d', Bool.true_and]
      by_cases R : F.regs = 4
      · have r : ((F.regs : Int) == 4) = true := nat_beq_true (b := 4) R
        have r' : (F.regs == 4) = true := by simpa using R
        cases M : (((x.b + j1) &&& 7) == 4)
        all_goals
          have hM := (BN.out (x.b + j1)).trans M
          rw [← HB1.out, Int.natCast_add] at hM
          simp only [r', Bool.true_and, Bool.not_false, Bool.not_true]
          go_enter Try.func95, Try.ntmps95
          go_wp2_with fail
          refine (HA.out _ HFM.out).mono ?_
          rintro e u ⟨rfl, rfl⟩
          rw [eA]
          go_wp2_with fail
          refine (HB.out _ (HFM.out.grown (set_grown w B 1 _) (by simpa using hg))).mono ?_
          rintro e u ⟨rfl, rfl⟩
          rw [eB]
          go_wp2
          go_ret
          exact ⟨rfl, set_set_grown w B 1 2 _ _, InsAt.b (InsAt.a HX.out (x.a + k)) (x.b + j1)⟩
      · have r : ((F.regs : Int) == 4) = false := nat_beq_false (b := 4) R
        have r' : (F.regs == 4) = false := by simpa using R
        simp only [r', Bool.false_and, Bool.not_false]
        go_enter Try.func95, Try.ntmps95
        go_wp2_with fail
        refine (HA.out _ HFM.out).mono ?_
        rintro e u ⟨rfl, rfl⟩
        rw [eA]
        go_wp2_with fail
        refine (HB.out _ (HFM.out.grown (set_grown w B 1 _) (by simpa using hg))).mono ?_
        rintro e u ⟨rfl, rfl⟩
        rw [eB]
        go_wp2
        go_ret
        exact ⟨rfl, set_set_grown w B 1 2 _ _, InsAt.b (InsAt.a HX.out (x.a + k)) (x.b + j1)⟩
    · have d : ((y1 : Int) == (F.ext : Int)) = false := nat_beq_false D
      have d' : (y1 == F.ext) = false := by simpa using D
      simp only [if_true, if_false, Bool.false_eq_true, d', Bool.false_and]
      go_enter Try.func95, Try.ntmps95
      go_wp2_with fail
      refine (HA.out _ HFM.out).mono ?_
      rintro e u ⟨rfl, rfl⟩
      rw [eA]
      go_wp2_with fail
      refine (HB.out _ (HFM.out.grown (set_grown w B 1 _) (by simpa using hg))).mono ?_
      rintro e u ⟨rfl, rfl⟩
      rw [eB]
      go_wp2
      go_ret
      exact ⟨rfl, set_set_grown w B 1 2 _ _, InsAt.b (InsAt.a HX.out (x.a + k)) (x.b + j1)⟩
end Go.Proofs.Ythbgmlmcjnlopaa
namespace Go.Proofs.Ythbgmlmcjnlopaa
open Go.ChangeShapes Go.WideShapes Go.ChangeAt Go.RowKit
set_option linter.unusedVariables false
set_option linter.unusedSimpArgs false

theorem Own.in_grown {w w' : World} {B n : Nat} {f : Nat → Value} {row : Option Nat} (h : Own w B n f) (hb : w.grownBy w' row) (hg : some B ≠ row) : Own w' B n f := h.grown hb hg

theorem code_nil (g o B : Nat) (F : Form) (x : InsV) (A : Option Addr) (cap : Nat) (w : World) :
    Calls Try.prog 87 #[.pointer (some ⟨g, o, none⟩), .slice A 0 cap, .pointer (some ⟨B, 0, none⟩)] w fun e w' =>
      e = .returned (.tuple #[.int .i64 0, .int .i64 1]) ∧ w = w' := by
  go_enter Try.func87, Try.ntmps87
  go_wp2
  go_ret2
  exact ⟨rfl, rfl⟩

theorem below_of_grown {w w' : World} (h : w.grownBy w' none) : Below w.heap.size w w' := ⟨h.os, h.tape, h.output, h.size, fun i hi => h.block i hi (by simp)⟩
theorem InsAt.none {w w' : World} {B : Nat} {x : InsV} (h : InsAt w B x) (hb : w.grownBy w' none) : InsAt w' B x := Own.grown h hb (by simp)

/-- The register stands in the code. -/
theorem code_in_no (g o B c : Nat) (F : Form) (x : InsV) (bb off n cap : Nat) (w : World) (hf : FormAt w g o F) (hn : 0 < n) (hn' : n ≤ 9223372036854775807) (hlt : bb < w.heap.size) (hv : w.cell? ⟨bb, off, none⟩ = some (.int .u8 c)) (hc : c ≤ 255) (hr : F.regs = 1) (hne : ¬ c &&& 248 = F.code) :
    Calls Try.prog 87 #[.pointer (some ⟨g, o, none⟩), .slice (some ⟨bb, off, none⟩) n cap, .pointer (some ⟨B, 0, none⟩)] w fun e w' =>
      e = .returned (.tuple #[.int .i64 0, .int .i64 0]) ∧ w.grownBy w' none := by
  have h1 : ((n : Int) == 0) = false := by simpa using (by omega : ¬ n = 0)
  have hltg := hf.lt
  have c4 := hf.c4
  have c5 := hf.c5
  rw [hr] at c5
  have e1 : bits .andNot .u8 (c : Int) 7 = ((c &&& 248 : Nat) : Int) := u8_andNot_nat c 7 (by omega) (by omega)
  obtain ⟨y, hy⟩ : ∃ u, c &&& 248 = u := ⟨_, rfl⟩
  rw [hy] at e1 hne
  have d : ((y : Int) != (F.code : Int)) = true := nat_bne_true hne
  have d' : ((y : Int) == (F.code : Int)) = false := nat_beq_false hne
  clear hf hne hy hr
  go_enter Try.func87, Try.ntmps87
  go_wp2
  go_region
  go_wp2
  go_ret2
  exact ⟨rfl, only_drew (World.grownBy.refl _ _)⟩

theorem code_in_yes (g o B c : Nat) (F : Form) (x : InsV) (bb off n cap : Nat) (w : World) (hf : FormAt w g o F) (hn : 0 < n) (hn' : n ≤ 9223372036854775807) (hlt : bb < w.heap.size) (hv : w.cell? ⟨bb, off, none⟩ = some (.int .u8 c)) (hc : c ≤ 255) (hr : F.regs = 1) (hne : c &&& 248 = F.code) (hx : InsAt w B x) (xa : x.a ≤ 8) :
    Calls Try.prog 87 #[.pointer (some ⟨g, o, none⟩), .slice (some ⟨bb, off, none⟩) n cap, .pointer (some ⟨B, 0, none⟩)] w fun e w' =>
      e = .returned (.tuple #[.int .i64 1, .int .i64 2]) ∧ w.grownBy w' (some B) ∧ InsAt w' B { x with a := x.a + (c &&& 7) } := by
  have h1 : ((n : Int) == 0) = false := by simpa using (by omega : ¬ n = 0)
  have hltg := hf.lt
  have c4 := hf.c4
  have c5 := hf.c5
  rw [hr] at c5
  have e1 : bits .andNot .u8 (c : Int) 7 = ((c &&& 248 : Nat) : Int) := u8_andNot_nat c 7 (by omega) (by omega)
  obtain ⟨y, hy⟩ : ∃ u, c &&& 248 = u := ⟨_, rfl⟩
  rw [hy] at e1 hne
  have d : ((y : Int) != (F.code : Int)) = false := by rw [hne]; simp
  have d' : ((y : Int) == (F.code : Int)) = true := nat_beq_true hne
  have m0 : bits .and .u8 (c : Int) 7 = ((c &&& 7 : Nat) : Int) := u8_and_nat c 7 (by omega) (by omega)
  have kB0 : c &&& 7 ≤ 7 := Nat.and_le_right
  obtain ⟨j, hj⟩ : ∃ u, c &&& 7 = u := ⟨_, rfl⟩
  rw [hj] at m0 kB0 ⊢
  have hB := hx.1
  have x1 : w.cell? ⟨B, 1, none⟩ = some (.int .i64 x.a) := hx.cell (i := 1) (by omega)
  have f1 := hx.frozen (i := 1) (by omega)
  have HX := Lib.hid hx
  clear hf hy hr hx hj
  go_enter Try.func87, Try.ntmps87
  go_wp2
  go_region
  go_wp2
  go_region
  go_wp2
  go_ret2
  exact ⟨rfl, only_drew (only_drew (set_grown w B 1 _)), (InsAt.a HX.out (x.a + j) : InsAt _ B _)⟩

/-- It does not. -/
theorem code_not (g o B c : Nat) (F : Form) (x : InsV) (bb off n cap : Nat) (w : World) (hf : FormAt w g o F) (hn : 0 < n) (hn' : n ≤ 9223372036854775807) (hlt : bb < w.heap.size) (hv : w.cell? ⟨bb, off, none⟩ = some (.int .u8 c)) (hc : c ≤ 255) (hr : ¬ F.regs = 1) (hne : ¬ c = F.code) :
    Calls Try.prog 87 #[.pointer (some ⟨g, o, none⟩), .slice (some ⟨bb, off, none⟩) n cap, .pointer (some ⟨B, 0, none⟩)] w fun e w' =>
      e = .returned (.tuple #[.int .i64 0, .int .i64 0]) ∧ w.grownBy w' none := by
  have h1 : ((n : Int) == 0) = false := by simpa using (by omega : ¬ n = 0)
  have hltg := hf.lt
  have c4 := hf.c4
  have c5 := hf.c5
  have r1 : ((F.regs : Int) == 1) = false := nat_beq_false (b := 1) hr
  have d : ((c : Int) != (F.code : Int)) = true := nat_bne_true hne
  have d' : ((c : Int) == (F.code : Int)) = false := nat_beq_false hne
  clear hf hne hr
  go_enter Try.func87, Try.ntmps87
  go_wp2
  go_region
  go_wp2
  go_ret2
  exact ⟨rfl, only_drew (World.grownBy.refl _ _)⟩

theorem code_one (g o B c : Nat) (F : Form) (x : InsV) (bb off n cap : Nat) (w : World) (hf : FormAt w g o F) (hn : 0 < n) (hn' : n ≤ 9223372036854775807) (hlt : bb < w.heap.size) (hv : w.cell? ⟨bb, off, none⟩ = some (.int .u8 c)) (hc : c ≤ 255) (hr : F.regs = 0) (hne : c = F.code) :
    Calls Try.prog 87 #[.pointer (some ⟨g, o, none⟩), .slice (some ⟨bb, off, none⟩) n cap, .pointer (some ⟨B, 0, none⟩)] w fun e w' =>
      e = .returned (.tuple #[.int .i64 1, .int .i64 2]) ∧ w.grownBy w' none := by
  have h1 : ((n : Int) == 0) = false := by simpa using (by omega : ¬ n = 0)
  have hltg := hf.lt
  have c4 := hf.c4
  have c5 := hf.c5
  rw [hr] at c5
  rw [← hne] at c4
  clear hf hne hr
  go_enter Try.func87, Try.ntmps87
  go_wp2
  go_region
  go_wp2
  go_ret2
  exact ⟨rfl, only_drew (World.grownBy.refl _ _)⟩

theorem code_short (g o B c : Nat) (F : Form) (x : InsV) (bb off n cap : Nat) (w : World) (hf : FormAt w g o F) (hn : n = 1) (hlt : bb < w.heap.size) (hv : w.cell? ⟨bb, off, none⟩ = some (.int .u8 c)) (hc : c ≤ 255) (hr : ¬ F.regs = 1) (hr0 : ¬ F.regs = 0) (hne : c = F.code) :
    Calls Try.prog 87 #[.pointer (some ⟨g, o, none⟩), .slice (some ⟨bb, off, none⟩) n cap, .pointer (some ⟨B, 0, none⟩)] w fun e w' =>
      e = .returned (.tuple #[.int .i64 0, .int .i64 1]) ∧ w.grownBy w' none := by
  subst hn
  have hltg := hf.lt
  have c4 := hf.c4
  have c5 := hf.c5
  have r1 : ((F.regs : Int) == 1) = false := nat_beq_false (b := 1) hr
  have r0 : ((F.regs : Int) == 0) = false := nat_beq_false (b := 0) hr0
  rw [← hne] at c4
  clear hf hne hr
  go_enter Try.func87, Try.ntmps87
  go_wp2
  go_region
  go_wp2
  go_ret2
  exact ⟨rfl, only_drew (World.grownBy.refl _ _)⟩

theorem code_regs (g o B c : Nat) (F : Form) (x : InsV) (bb off n cap : Nat) (w : World) (hf : FormAt w g o F) (hn : 1 < n) (hn' : n ≤ 9223372036854775807) (hlt : bb < w.heap.size) (hv : w.cell? ⟨bb, off, none⟩ = some (.int .u8 c)) (hc : c ≤ 255) (v : Nat) (hv1 : w.cell? ⟨bb, off + 1, none⟩ = some (.int .u8 v)) (hv255 : v ≤ 255) (hr : ¬ F.regs = 1) (hr0 : ¬ F.regs = 0) (hne : c = F.code) (hF : F.Ok) (hg : g ≠ B) (hx : InsAt w B x) (xa : x.a ≤ 8) (xb : x.b ≤ 8) :
    Calls Try.prog 87 #[.pointer (some ⟨g, o, none⟩), .slice (some ⟨bb, off, none⟩) n cap, .pointer (some ⟨B, 0, none⟩)] w fun e w' =>
      e = .returned (.tuple #[.int .i64 (if (regsRead F v x.a x.b).1 then 2 else 0), .int .i64 (if (regsRead F v x.a x.b).1 then 2 else 0)]) ∧ w.grownBy w' (some B) ∧ InsAt w' B { x with a := (regsRead F v x.a x.b).2.1, b := (regsRead F v x.a x.b).2.2 } := by
  have h1 : ((n : Int) == 0) = false := by simpa using (by omega : ¬ n = 0)
  have hltg := hf.lt
  have c4 := hf.c4
  have c5 := hf.c5
  have h2 : ((n : Int) == 1) = false := beq_eq_false_iff_ne.mpr (by omega)
  have r1 : ((F.regs : Int) == 1) = false := nat_beq_false (b := 1) hr
  have r0 : ((F.regs : Int) == 0) = false := nat_beq_false (b := 0) hr0
  have hR := regs_any g o B v F x w.drew hF (hf.of_block rfl (Nat.le_refl _)) hv255 hg hx xa xb
  rw [← hne] at c4
  clear hf hne hr hx
  generalize (regsRead F v x.a x.b).1 = T at hR ⊢
  have HR := Lib.hid hR
  clear hR
  cases T
  all_goals
    go_enter Try.func87, Try.ntmps87
    go_wp2
    go_region
    go_wp2_with fail
    refine (HR.out).mono ?_
    rintro e u ⟨rfl, hu, hi⟩
    have HU := Lib.hid hu
    have HI := Lib.hid hi
    clear hu hi
    go_wp2
    go_ret2
    exact ⟨rfl, ⟨HU.out.os, HU.out.tape, HU.out.output, HU.out.size, HU.out.block⟩, HI.out⟩

theorem code_any (g o B : Nat) (F : Form) (x : InsV) (bs : List Nat) (A : Option Addr) (cap : Nat) (w : World) (hF : F.Ok) (hf : FormAt w g o F) (hb : Bn bs) (hl : bs.length ≤ 9223372036854775807)
    (hs : SlB w A bs.length (bF bs)) (hg : g ≠ B) (hx : InsAt w B x) (xa : x.a ≤ 8) (xb : x.b ≤ 8) :
    Calls Try.prog 87 #[.pointer (some ⟨g, o, none⟩), .slice A bs.length cap, .pointer (some ⟨B, 0, none⟩)] w fun e w' =>
      e = .returned (.tuple #[.int .i64 (codeRead F x.a x.b bs).n, .int .i64 (codeRead F x.a x.b bs).fit]) ∧ w.grownBy w' (some B) ∧ InsAt w' B { x with a := (codeRead F x.a x.b bs).a, b := (codeRead F x.a x.b bs).b } := by
  match bs, hb, hl, hs with
  | [], hb, hl, hs =>
    refine (code_nil g o B F x A cap w).mono ?_
    rintro e w' ⟨rfl, rfl⟩
    exact ⟨rfl, World.grownBy.refl _ _, hx⟩
  | c :: r, hb, hl, hs =>
    have hc : c ≤ 255 := hb c (by simp)
    obtain ⟨bb, off, rfl, hlt, hrow⟩ : ∃ b off, A = some ⟨b, off, none⟩ ∧ b < w.heap.size ∧ Row w b off (c :: r).length (bF (c :: r)) := by
      rcases hs with h | h
      · simp at h
      · exact h
    have hcell : w.cell? ⟨bb, off, none⟩ = some (.int .u8 c) := hrow 0 (by simp)
    have hn : 0 < (c :: r).length := by simp
    by_cases hr : F.regs = 1
    · by_cases hne : c &&& 248 = F.code
      · have e : codeRead F x.a x.b (c :: r) = ⟨1, 2, x.a + (c &&& 7), x.b⟩ := by simp only [codeRead]; rw [if_pos hr, if_neg (fun h => h hne)]
        rw [e]
        exact code_in_yes g o B c F x bb off _ cap w hf hn hl hlt hcell hc hr hne hx xa
      · have e : codeRead F x.a x.b (c :: r) = ⟨0, 0, x.a, x.b⟩ := by simp only [codeRead]; rw [if_pos hr, if_pos hne]
        rw [e]
        refine (code_in_no g o B c F x bb off _ cap w hf hn hl hlt hcell hc hr hne).mono ?_
        rintro e w' ⟨rfl, hw⟩
        exact ⟨rfl, grown_of_below (below_of_grown hw), hx.none hw⟩
    · by_cases hne : c = F.code
      · by_cases hr0 : F.regs = 0
        · have e : codeRead F x.a x.b (c :: r) = ⟨1, 2, x.a, x.b⟩ := by simp only [codeRead]; rw [if_neg hr, if_neg (fun h => h hne), if_pos hr0]
          rw [e]
          refine (code_one g o B c F x bb off _ cap w hf hn hl hlt hcell hc hr0 hne).mono ?_
          rintro e w' ⟨rfl, hw⟩
          exact ⟨rfl, grown_of_below (below_of_grown hw), hx.none hw⟩
        · match r, hb, hl, hrow with
          | [], hb, hl, hrow =>
            have e : codeRead F x.a x.b [c] = ⟨0, 1, x.a, x.b⟩ := by simp only [codeRead]; rw [if_neg hr, if_neg (fun h => h hne), if_neg hr0]
            rw [e]
            refine (code_short g o B c F x bb off _ cap w hf (by simp) hlt hcell hc hr hr0 hne).mono ?_
            rintro e w' ⟨rfl, hw⟩
            exact ⟨rfl, grown_of_below (below_of_grown hw), hx.none hw⟩
          | v :: r, hb, hl, hrow =>
            have hv : v ≤ 255 := hb v (by simp)
            have e : codeRead F x.a x.b (c :: v :: r) = if (regsRead F v x.a x.b).1 then ⟨2, 2, (regsRead F v x.a x.b).2.1, (regsRead F v x.a x.b).2.2⟩ else ⟨0, 0, (regsRead F v x.a x.b).2.1, (regsRead F v x.a x.b).2.2⟩ := by
              simp only [codeRead]; rw [if_neg hr, if_neg (fun h => h hne), if_neg hr0]
            rw [e]
            refine (code_regs g o B c F x bb off _ cap w hf (by simp) hl hlt hcell hc v (hrow 1 (by simp)) hv hr hr0 hne hF hg hx xa xb).mono ?_
            rintro e w' ⟨rfl, hw, hi⟩
            refine ⟨?_, hw, ?_⟩
            · cases (regsRead F v x.a x.b).1 <;> rfl
            · cases h : (regsRead F v x.a x.b).1 <;> simpa [h] using hi
      · have e : codeRead F x.a x.b (c :: r) = ⟨0, 0, x.a, x.b⟩ := by simp only [codeRead]; rw [if_neg hr, if_pos hne]
        rw [e]
        refine (code_not g o B c F x bb off _ cap w hf hn hl hlt hcell hc hr hne).mono ?_
        rintro e w' ⟨rfl, hw⟩
        exact ⟨rfl, grown_of_below (below_of_grown hw), hx.none hw⟩
end Go.Proofs.Ythbgmlmcjnlopaa
