/- package dec: the bytes of an instruction, piece by piece. -/
import Derived.Test.YtimjpdheaecajaaDecK
import Derived.Test.YtimjpdheaecajaaBl
namespace Go.Proofs.Ytimjpdheaecajaa
open Go.ChangeShapes Go.WideShapes Go.ChangeAt Go.RowKit
set_option linter.unusedVariables false

def zL (bs : List Nat) : List Int := bs.map fun (n : Nat) => (n : Int)
theorem zL_len (bs : List Nat) : (zL bs).length = bs.length := by simp [zL]
theorem zL_app (bs cs : List Nat) : zL (bs ++ cs) = zL bs ++ zL cs := by simp [zL]
theorem litF_zL (bs : List Nat) (i : Nat) : litF (zL bs) i = bF bs i := by
  unfold litF bF zL
  rcases Nat.lt_or_ge i bs.length with h | h
  · simp [List.getD, h]
  · simp [List.getD, h]

def preVal (p : Pre) (a b : Nat) : Nat := (p.base ||| (if 7 < a then p.bitA else 0)) ||| (if 7 < b then p.bitB else 0)
def preBytes (p : Pre) (a b : Nat) : List Nat := if p.spare = true ∧ preVal p a b = p.base then [] else if preVal p a b = 0 then [] else [preVal p a b]
def codeBytes (F : Form) (x : InsV) : List Nat :=
  if F.regs = 0 then [F.code] else if F.regs = 1 then [(F.code + x.a % 8) % 256] else [F.code, (F.ext + x.a % 8 * 8 + x.b % 8) % 256]
def leBytes (v n : Nat) : List Nat := (List.range n).map fun i => v / 2 ^ (8 * i) % 256
def tailVal (F : Form) (x : InsV) : Nat := if F.tail = 5 ∨ F.tail = 6 then (x.disp % 18446744073709551616).toNat else x.imm
def encM (F : Form) (x : InsV) : List Nat := preBytes (preF F.pre) x.a x.b ++ codeBytes F x ++ leBytes (tailVal F x) (tailLen F.tail)

/-- What byteOf tells. -/
def preTold (p : Pre) (a b : Nat) : Nat × Bool := if p.spare = true ∧ preVal p a b = p.base then (0, false) else (preVal p a b, decide (preVal p a b ≠ 0))
theorem preTold_bytes (p : Pre) (a b : Nat) : preBytes p a b = if (preTold p a b).2 = true then [(preTold p a b).1] else [] := by
  unfold preBytes preTold
  split
  · simp
  · by_cases h : preVal p a b = 0 <;> simp [h]

set_option maxHeartbeats 1000000 in
theorem byteOf_any (p : Pre) (x : InsV) (w : World) (p1 : p.base ≤ 255) (p2 : p.bitA ≤ 255) (p3 : p.bitB ≤ 255) (hx : x.Ok) :
    Calls Try.prog 13 #[.agg #[.int .u8 p.base, .int .u8 p.bitA, .int .u8 p.bitB, .bool p.spare], insV x] w fun e w' =>
      e = .returned (.tuple #[.int .u8 (preTold p x.a x.b).1, .bool (preTold p x.a x.b).2]) ∧ Below w.heap.size w w' := by
  have ha := hx.a
  have hb := hx.b
  obtain ⟨base, bitA, bitB, spare⟩ := p
  simp only at p1 p2 p3
  unfold insV
  obtain ⟨xo, xa, xb, xl, xc, xi, xd⟩ := x
  simp only at ha hb ⊢
  clear hx
  have o1 : bits .or .u8 (base : Int) (bitA : Int) = ((base ||| bitA : Nat) : Int) := by rw [u8_or _ _ (by omega) (by omega) (by omega) (by omega)]; rfl
  have l1 : base ||| bitA < 2 ^ 8 := Nat.or_lt_two_pow (by omega) (by omega)
  have o2 : bits .or .u8 ((base ||| bitA : Nat) : Int) (bitB : Int) = ((base ||| bitA ||| bitB : Nat) : Int) := by rw [u8_or _ _ (by omega) (by omega) (by omega) (by omega)]; rfl
  have o3 : bits .or .u8 (base : Int) (bitB : Int) = ((base ||| bitB : Nat) : Int) := by rw [u8_or _ _ (by omega) (by omega) (by omega) (by omega)]; rfl
  obtain ⟨y1, hy1⟩ : ∃ y, base ||| bitA = y := ⟨_, rfl⟩
  obtain ⟨y3, hy3⟩ : ∃ y, base ||| bitB = y := ⟨_, rfl⟩
  have HY1 := Lib.hid hy1
  have HY3 := Lib.hid hy3
  rw [hy1] at o1 o2 l1
  rw [hy3] at o3
  obtain ⟨y2, hy2⟩ : ∃ y, y1 ||| bitB = y := ⟨_, rfl⟩
  have HY2 := Lib.hid hy2
  rw [hy2] at o2
  clear hy1 hy2 hy3 p1 p2 p3 l1
  by_cases cA : 7 < xa <;> by_cases cB : 7 < xb
  · obtain ⟨V, hV⟩ : ∃ V, preVal ⟨base, bitA, bitB, spare⟩ xa xb = V := ⟨_, rfl⟩
    have hV' := hV
    simp only [preVal, cA, cB, if_true, if_false, Nat.or_zero, HY1.out, HY2.out, HY3.out] at hV'
    subst hV'
    unfold preTold
    rw [hV]
    clear hV
    simp only
    have dA : decide ((xa : Int) > 7) = true := decide_eq_true (by omega)
    have dB : decide ((xb : Int) > 7) = true := decide_eq_true (by omega)
    clear cA cB ha hb
    cases spare
    · rw [if_neg (fun h => Bool.noConfusion h.1)]
      rw [← nat_bne_zero]
      all_goals
        go_enter Try.func13, Try.ntmps13
        go_wp2
        go_ret2
        exact ⟨rfl, by go_grown⟩
    · by_cases hv : y2 = base
      · rw [if_pos ⟨rfl, hv⟩]
        have d : ((y2 : Int) == (base : Int)) = true := nat_beq_true hv
        clear hv
        go_enter Try.func13, Try.ntmps13
        go_wp2
        go_ret2
        exact ⟨rfl, by go_grown⟩
      · rw [if_neg (fun h => hv h.2)]
        have d : ((y2 : Int) == (base : Int)) = false := nat_beq_false hv
        rw [← nat_bne_zero]
        clear hv
        go_enter Try.func13, Try.ntmps13
        go_wp2
        go_ret2
        exact ⟨rfl, by go_grown⟩
  · obtain ⟨V, hV⟩ : ∃ V, preVal ⟨base, bitA, bitB, spare⟩ xa xb = V := ⟨_, rfl⟩
    have hV' := hV
    simp only [preVal, cA, cB, if_true, if_false, Nat.or_zero, HY1.out, HY2.out, HY3.out] at hV'
    subst hV'
    unfold preTold
    rw [hV]
    clear hV
    simp only
    have dA : decide ((xa : Int) > 7) = true := decide_eq_true (by omega)
    have dB : decide ((xb : Int) > 7) = false := decide_eq_false (by omega)
    clear cA cB ha hb
    cases spare
    · rw [if_neg (fun h => Bool.noConfusion h.1)]
      rw [← nat_bne_zero]
      all_goals
        go_enter Try.func13, Try.ntmps13
        go_wp2
        go_ret2
        exact ⟨rfl, by go_grown⟩
    · by_cases hv : y1 = base
      · rw [if_pos ⟨rfl, hv⟩]
        have d : ((y1 : Int) == (base : Int)) = true := nat_beq_true hv
        clear hv
        go_enter Try.func13, Try.ntmps13
        go_wp2
        go_ret2
        exact ⟨rfl, by go_grown⟩
      · rw [if_neg (fun h => hv h.2)]
        have d : ((y1 : Int) == (base : Int)) = false := nat_beq_false hv
        rw [← nat_bne_zero]
        clear hv
        go_enter Try.func13, Try.ntmps13
        go_wp2
        go_ret2
        exact ⟨rfl, by go_grown⟩
  · obtain ⟨V, hV⟩ : ∃ V, preVal ⟨base, bitA, bitB, spare⟩ xa xb = V := ⟨_, rfl⟩
    have hV' := hV
    simp only [preVal, cA, cB, if_true, if_false, Nat.or_zero, HY1.out, HY2.out, HY3.out] at hV'
    subst hV'
    unfold preTold
    rw [hV]
    clear hV
    simp only
    have dA : decide ((xa : Int) > 7) = false := decide_eq_false (by omega)
    have dB : decide ((xb : Int) > 7) = true := decide_eq_true (by omega)
    clear cA cB ha hb
    cases spare
    · rw [if_neg (fun h => Bool.noConfusion h.1)]
      rw [← nat_bne_zero]
      all_goals
        go_enter Try.func13, Try.ntmps13
        go_wp2
        go_ret2
        exact ⟨rfl, by go_grown⟩
    · by_cases hv : y3 = base
      · rw [if_pos ⟨rfl, hv⟩]
        have d : ((y3 : Int) == (base : Int)) = true := nat_beq_true hv
        clear hv
        go_enter Try.func13, Try.ntmps13
        go_wp2
        go_ret2
        exact ⟨rfl, by go_grown⟩
      · rw [if_neg (fun h => hv h.2)]
        have d : ((y3 : Int) == (base : Int)) = false := nat_beq_false hv
        rw [← nat_bne_zero]
        clear hv
        go_enter Try.func13, Try.ntmps13
        go_wp2
        go_ret2
        exact ⟨rfl, by go_grown⟩
  · obtain ⟨V, hV⟩ : ∃ V, preVal ⟨base, bitA, bitB, spare⟩ xa xb = V := ⟨_, rfl⟩
    have hV' := hV
    simp only [preVal, cA, cB, if_true, if_false, Nat.or_zero, HY1.out, HY2.out, HY3.out] at hV'
    subst hV'
    unfold preTold
    rw [hV]
    clear hV
    simp only
    have dA : decide ((xa : Int) > 7) = false := decide_eq_false (by omega)
    have dB : decide ((xb : Int) > 7) = false := decide_eq_false (by omega)
    clear cA cB ha hb
    cases spare
    · rw [if_neg (fun h => Bool.noConfusion h.1)]
      rw [← nat_bne_zero]
      all_goals
        go_enter Try.func13, Try.ntmps13
        go_wp2
        go_ret2
        exact ⟨rfl, by go_grown⟩
    · rw [if_pos (by simp)]
      all_goals
        go_enter Try.func13, Try.ntmps13
        go_wp2
        go_ret2
        exact ⟨rfl, by go_grown⟩

/-- A fresh slice of bytes. -/
def NewB (w w' : World) (e : Ending) (bs : List Nat) : Prop := ∃ g c, e = .returned (.slice (some ⟨g, 0, none⟩) bs.length c) ∧ SlB w' (some ⟨g, 0, none⟩) bs.length (bF bs) ∧ Below w.heap.size w w'

theorem slB_new (w : World) (bs : List Nat) (T : TypeId) : SlB (w.alloc (.cells (bs.map fun (n : Nat) => Value.int .u8 (n : Int)).toArray T)) (some ⟨w.heap.size, 0, none⟩) bs.length (bF bs) := by
  refine .inr ⟨w.heap.size, 0, rfl, by simp, fun i hi => ?_⟩
  rw [Nat.zero_add, cell_of_row _ _ _ _ _ _ (heap_alloc_new _ _)]
  simp [bF, List.getD, hi]

theorem newB_box (w : World) (o : Obj) (bs : List Nat) (c : Nat) (T : TypeId) : NewB w ((w.alloc o).alloc (.cells (bs.map fun (n : Nat) => Value.int .u8 (n : Int)).toArray T)).drew (.returned (.slice (some ⟨w.heap.size + 1, 0, none⟩) bs.length c)) bs := by
  refine ⟨w.heap.size + 1, c, rfl, ?_, (((Below.refl w.heap.size w).alloc (Nat.le_refl _) o).alloc (by simp) _).drew⟩
  have h := slB_new (w.alloc o) bs T
  rw [show (w.alloc o).heap.size = w.heap.size + 1 by simp] at h
  exact h
theorem newB_box2 (w : World) (o : Obj) (bs : List Nat) (c : Nat) (T : TypeId) : NewB w ((w.alloc o).alloc (.cells (bs.map fun (n : Nat) => Value.int .u8 (n : Int)).toArray T)).drew.drew (.returned (.slice (some ⟨w.heap.size + 1, 0, none⟩) bs.length c)) bs := by
  obtain ⟨g, c', h1, h2, h3⟩ := newB_box w o bs c T
  exact ⟨g, c', h1, h2, h3.drew⟩

set_option maxHeartbeats 1000000 in
theorem codeOf_any (g o : Nat) (F : Form) (x : InsV) (w : World) (hF : F.Ok) (hf : FormAt w g o F) (hx : x.Ok) :
    Calls Try.prog 14 #[.pointer (some ⟨g, o, none⟩), insV x] w fun e w' => NewB w w' e (codeBytes F x) := by
  have ha := hx.a
  have hb := hx.b
  have c4 := hf.c4
  have c5 := hf.c5
  have c6 := hf.c6
  have h4 := hF.code
  have h6 := hF.ext
  have hlt := hf.lt
  unfold insV codeBytes
  obtain ⟨xo, xa, xb, xl, xc, xi, xd⟩ := x
  simp only at ha hb ⊢
  have m1 : bits .and .i64 (xa : Int) 7 = (xa : Int) % 8 := i64_mask _ 3 (by omega)
  have m2 : bits .and .i64 (xb : Int) 7 = (xb : Int) % 8 := i64_mask _ 3 (by omega)
  have n1 : (xa : Int) % 8 = ((xa % 8 : Nat) : Int) := by omega
  have n2 : (xb : Int) % 8 = ((xb % 8 : Nat) : Int) := by omega
  have l1 : xa % 8 ≤ 7 := by omega
  have l2 : xb % 8 ≤ 7 := by omega
  rw [n1] at m1
  rw [n2] at m2
  obtain ⟨a, ea⟩ : ∃ a, xa % 8 = a := ⟨_, rfl⟩
  obtain ⟨b, eb⟩ : ∃ b, xb % 8 = b := ⟨_, rfl⟩
  rw [ea] at m1 l1 ⊢
  rw [eb] at m2 l2 ⊢
  clear ea eb n1 n2 hx hf ha hb
  have v1 : IntKind.u8.wrap (a : Int) = a := by rw [IntKind.wrap_u8]; omega
  have v2 : IntKind.u8.wrap (b : Int) = b := by rw [IntKind.wrap_u8]; omega
  have v3 : IntKind.u8.wrap ((F.code : Int) + (a : Int)) = (((F.code + a) % 256 : Nat) : Int) := by rw [IntKind.wrap_u8]; omega
  have v4 : IntKind.u8.wrap ((a : Int) * 8) = (a : Int) * 8 := by rw [IntKind.wrap_u8]; omega
  have v5 : IntKind.u8.wrap ((F.ext : Int) + (a : Int) * 8) = (((F.ext + a * 8) % 256 : Nat) : Int) := by rw [IntKind.wrap_u8]; omega
  have v6 : IntKind.u8.wrap ((((F.ext + a * 8) % 256 : Nat) : Int) + (b : Int)) = (((F.ext + a * 8 + b) % 256 : Nat) : Int) := by rw [IntKind.wrap_u8]; omega
  obtain ⟨z1, hz1⟩ : ∃ z, (F.code + a) % 256 = z := ⟨_, rfl⟩
  obtain ⟨z2, hz2⟩ : ∃ z, (F.ext + a * 8) % 256 = z := ⟨_, rfl⟩
  obtain ⟨z3, hz3⟩ : ∃ z, (F.ext + a * 8 + b) % 256 = z := ⟨_, rfl⟩
  rw [hz1] at v3 ⊢
  rw [hz2] at v5 v6
  rw [hz3] at v6 ⊢
  clear hz1 hz2 hz3 hF h4 h6
  by_cases r0 : F.regs = 0
  · rw [if_pos r0]
    rw [r0] at c5
    clear r0
    go_enter Try.func14, Try.ntmps14
    go_wp2
    go_region
    go_wp2
    go_ret
    exact newB_box w _ [F.code] 1 5
  · have d0 : ((F.regs : Int) == 0) = false := nat_beq_false (b := 0) r0
    rw [if_neg r0]
    clear r0
    by_cases r1 : F.regs = 1
    · rw [if_pos r1]
      rw [r1] at c5
      clear r1 d0
      go_enter Try.func14, Try.ntmps14
      go_wp2
      go_region
      go_wp2
      go_ret
      exact newB_box w _ [z1] 1 5
    · have d1 : ((F.regs : Int) == 1) = false := nat_beq_false (b := 1) r1
      rw [if_neg r1]
      clear r1
      go_enter Try.func14, Try.ntmps14
      go_wp2
      go_region
      go_wp2
      go_region
      go_wp2
      go_ret
      exact newB_box2 w _ [F.code, z3] 2 5
end Go.Proofs.Ytimjpdheaecajaa
