/- Memory of pages: awake of layer 3. -/
import Derived.Test.YtlifaldbdjcgjaaVmore
import Derived.Test.YtlifaldbdjcgjaaRoomGaps
import Derived.Test.YtlifaldbdjcgjaaStr
namespace Go.Proofs.Ytlifaldbdjcgjaa
open Go.ChangeShapes Go.WideShapes Go.ChangeAt Go.RowKit
open Go.Maps (Keyed)
set_option linter.unusedVariables false
set_option linter.unusedSimpArgs false

theorem setP_one (a p x : Int) : setP (fun _ => none) a p 1 x = if x = a then some ⟨p, fun _ => 0⟩ else none := by
  have h : setP (fun _ => none) a p 1 = upd (fun _ => none) a (some ⟨p, fun _ => 0⟩) := by
    show upd (fun _ => none) (a + ((0 : Nat) : Int) * 4096) _ = _
    rw [show a + ((0 : Nat) : Int) * 4096 = a by omega]
  rw [h]
  by_cases e : x = a
  · rw [if_pos e, e, upd_same]
  · rw [if_neg e, upd_other _ _ e]

theorem MemAt.block {R : Nat → Prop} {w : World} {M m : Nat} {most : Int} {mp : Int → Option Pg} (H : MemAt R w M m most mp) (o : Obj) : ∃ R' : Nat → Prop, (∀ k, R k → R' k) ∧ R' w.heap.size ∧ MemAt R' (w.alloc o) M m most mp :=
  ⟨_, fun k hk => .inl hk, .inr ⟨Nat.le_refl _, by simp⟩, H.more ((Below.refl w.heap.size w).alloc (Nat.le_refl _) o)⟩

theorem own_fault (w : World) (x y : Int) (t : TypeId) : Own (w.alloc (.cells #[.int .i64 x, .int .u64 y] t)) w.heap.size 2 (fun i => if i = 0 then .int .i64 x else .int .u64 y) :=
  ⟨by simp, fun i hi => ⟨by rcases (by omega : i = 0 ∨ i = 1) with rfl | rfl <;> simp [go_sem], by simp [go_sem]⟩⟩

def mpA : Int → Option Pg := putP (setP (fun _ => none) 4096 3 1) 4100 1 (fun _ => 7)
theorem mpA_page : mpA 4096 = some ⟨3, fun j => if (4096 : Int) % 4096 = 0 ∧ j < 4096 ∧ (4100 : Int) ≤ 4096 + j ∧ (4096 : Int) + j < 4100 + (1 : Nat) then 7 else 0⟩ := by
  unfold mpA putP
  rw [setP_one, if_pos rfl]
  rfl
theorem mpA_none {x : Int} (h : x ≠ 4096) : mpA x = none := by
  unfold mpA putP
  rw [setP_one, if_neg h]
  rfl
theorem mpA_prot : ∀ x g, mpA x = some g → 0 ≤ g.prot ∧ g.prot ≤ 15 := fun x g h => by
  by_cases e : x = 4096
  · rw [e, mpA_page] at h
    cases h
    exact ⟨by decide, by decide⟩
  · rw [mpA_none e] at h
    cases h
theorem setP_prot {p : Int} (h : 0 ≤ p ∧ p ≤ 15) (a : Int) : ∀ x g, setP (fun _ => none) a p 1 x = some g → 0 ≤ g.prot ∧ g.prot ≤ 15 := fun x g h => by
  rw [setP_one] at h
  split at h
  · cases h; assumption
  · cases h

theorem askA_w : askS (setP (fun _ => none) 4096 3 1) 2 3 1 4100 1 = (0, 0, none) := by
  have h1 : setP (fun _ => none) 4096 3 1 ((4100 : Int) - 4100 % 4096) = some ⟨3, fun _ => 0⟩ := by rw [setP_one]; rfl
  unfold askS
  rw [if_neg (by omega), h1]
  rfl
theorem askA_r : askS mpA 1 2 1 4100 1 = (0, 0, none) := by
  unfold askS
  rw [if_neg (by omega), show (4100 : Int) - 4100 % 4096 = 4096 from rfl, mpA_page]
  rfl
theorem askA_x : askS mpA 4 4 1 4096 1 = (4, 4096, none) := by
  unfold askS
  rw [if_neg (by omega), show (4096 : Int) - 4096 % 4096 = 4096 from rfl, mpA_page]
  rfl
theorem askA_f : askS mpA 1 2 2 4095 2 = (1, 4095, none) := by
  unfold askS
  rw [if_neg (by omega), show (4095 : Int) - 4095 % 4096 = 0 from rfl, mpA_none (by omega)]
theorem byteA : byteAt mpA (4100 + (0 : Nat)) = 7 := by
  unfold byteAt
  rw [show (4100 : Int) + (0 : Nat) - (4100 + (0 : Nat)) % 4096 = 4096 from rfl, mpA_page]
  rfl

set_option maxRecDepth 100000 in
theorem awake3_any (w : World) : Calls Try.prog 24 #[] w fun e w' => e = .returned (.bool true) ∧ Below w.heap.size w w' := by
  have hR : ∀ k, k < w.heap.size → k < w.heap.size := fun _ h => h
  go_enter Try.func24, Try.ntmps24
  go_wp2_with fail
  refine (newMem_any (· < w.heap.size) w 4 hR (by omega) (by omega)).mono ?_
  rintro e w1 ⟨M, rfl, h1, k1⟩
  have H1 := Lib.hid h1
  have K1 := Lib.hid k1
  clear h1 k1
  go_wp2_with fail
  refine (map_core (· < w.heap.size) w1 M 0 4 _ 4096 3 1 (by omega) ⟨by omega, by omega, by omega, by omega⟩ (by omega) (by omega) (fun _ _ => rfl) (by omega) H1.out).mono ?_
  rintro e w2 ⟨rfl, h2, k2⟩
  have H2 := Lib.hid h2
  have K2 := Lib.hid (K1.out.trans k2)
  clear h2 k2 H1 K1
  go_wp2_with fail
  obtain ⟨R3, s3, b3, h3⟩ := H2.out.block (.cells #[.int .u8 7] 5)
  have S3 := Lib.hid s3
  have H3 := Lib.hid h3
  have K3 := Lib.hid (K2.out.alloc hR (.cells #[.int .u8 7] 5))
  have HS3 : Hid (SrcR R3 (w2.alloc (.cells #[.int .u8 7] 5)) (some ⟨w2.heap.size, 0, none⟩) 1 (fun _ => 7)) := .inr ⟨_, 0, rfl, b3, fun j hj => by rw [show j = 0 by omega]; simp [go_sem]⟩
  clear s3 b3 h3 H2 K2
  generalize w2.alloc (.cells #[.int .u8 7] 5) = W3 at *
  refine (write_yes R3 W3 M _ 4 _ 4100 _ 1 1 (fun _ => 7) (by omega) (by omega) (by omega) (by omega) (by omega) HS3.out (setP_prot ⟨by omega, by omega⟩ 4096) (show (askS _ 2 3 1 4100 1).1 = 0 by rw [askA_w]) H3.out).mono ?_
  rintro e w4 ⟨rfl, h4, k4⟩
  obtain ⟨R5, s5, b5, h5⟩ := (show MemAt R3 w4 M _ 4 mpA from h4).block (.cells #[.int .i64 0, .int .u64 0] 45)
  have H5 := Lib.hid h5
  have S5 := Lib.hid (fun k hk => s5 k (S3.out k hk))
  have K5 := Lib.hid ((K3.out.trans (k4.mono S3.out)).alloc hR (.cells #[.int .i64 0, .int .u64 0] 45))
  have B5 := Lib.hid b5
  have O5 := Lib.hid (own_fault w4 0 0 45)
  clear h4 k4 s5 b5 h5 K3 S3 H3 HS3
  go_wp2_with fail
  generalize w4.alloc (.cells #[.int .i64 0, .int .u64 0] 45) = W5 at *
  refine (read_yes R5 W5 M _ 4 mpA 4100 1 (by omega) (by omega) (by omega) mpA_prot (show (askS _ 1 2 1 4100 1).1 = 0 by rw [askA_r]) H5.out).mono ?_
  rintro e w6 ⟨g, hg, rfl, og, h6, k6⟩
  obtain ⟨R7, s7, b7, h7⟩ := h6.block (.cells #[.int .i64 0, .int .u64 0] 45)
  have H7 := Lib.hid h7
  have S7 := Lib.hid (fun k hk => s7 k (.inl (S5.out k hk)))
  have K7 := Lib.hid ((K5.out.trans (k6.mono S5.out)).alloc hR (.cells #[.int .i64 0, .int .u64 0] 45))
  have B7 := Lib.hid (And.intro b7 (And.intro (s7 _ (.inl B5.out)) (s7 _ (.inr rfl))))
  have O7 := Lib.hid (And.intro (own_fault w6 0 0 45) (And.intro ((k6.own O5.out B5.out).alloc (.cells #[.int .i64 0, .int .u64 0] 45)) (og.alloc (.cells #[.int .i64 0, .int .u64 0] 45))))
  clear og h6 k6 s7 b7 h7 K5 S5 H5 O5 B5
  go_wp2_with fail
  generalize w6.alloc (.cells #[.int .i64 0, .int .u64 0] 45) = W7 at *
  have hc := run_no R7 W7 M _ 4 mpA 4096 1 1 (by omega) (.inl (by omega)) (by omega) (by omega) (by omega) mpA_prot (by rw [askA_x]; decide) H7.out
  rw [askA_x] at hc
  refine hc.mono ?_
  clear hc
  rintro e w8 ⟨rfl, h8, k8⟩
  obtain ⟨R9, s9, b9, h9⟩ := (show MemAt R7 w8 M _ 4 mpA from h8).block (.cells #[.int .i64 4, .int .u64 4096] 45)
  have H9 := Lib.hid h9
  have S9 := Lib.hid (fun k hk => s9 k (S7.out k hk))
  have K9 := Lib.hid ((K7.out.trans (k8.mono S7.out)).alloc hR (.cells #[.int .i64 4, .int .u64 4096] 45))
  have B9 := Lib.hid (And.intro b9 (And.intro (s9 _ B7.out.1) (And.intro (s9 _ B7.out.2.1) (s9 _ B7.out.2.2))))
  have O9 := Lib.hid (And.intro (own_fault w8 4 4096 45) (And.intro ((k8.own O7.out.1 B7.out.1).alloc (.cells #[.int .i64 4, .int .u64 4096] 45)) (And.intro ((k8.own O7.out.2.1 B7.out.2.1).alloc (.cells #[.int .i64 4, .int .u64 4096] 45)) ((k8.own O7.out.2.2 B7.out.2.2).alloc (.cells #[.int .i64 4, .int .u64 4096] 45)))))
  clear h8 k8 s9 b9 h9 K7 S7 H7 O7 B7
  go_wp2_with fail
  generalize w8.alloc (.cells #[.int .i64 4, .int .u64 4096] 45) = W9 at *
  have hc := read_no R9 W9 M _ 4 mpA 4095 2 2 (by omega) (.inl (by omega)) (by omega) (by omega) (by omega) mpA_prot (by rw [askA_f]; decide) H9.out
  rw [askA_f] at hc
  refine hc.mono ?_
  clear hc
  rintro e w10 ⟨rfl, h10, k10⟩
  have K11 := Lib.hid ((K9.out.trans (k10.mono S9.out)).alloc hR (.cells #[.int .i64 1, .int .u64 4095] 45))
  have O11 := Lib.hid (And.intro (own_fault w10 1 4095 45) (And.intro ((k10.own O9.out.1 B9.out.1).alloc (.cells #[.int .i64 1, .int .u64 4095] 45)) (And.intro ((k10.own O9.out.2.1 B9.out.2.1).alloc (.cells #[.int .i64 1, .int .u64 4095] 45)) (And.intro ((k10.own O9.out.2.2.1 B9.out.2.2.1).alloc (.cells #[.int .i64 1, .int .u64 4095] 45)) ((k10.own O9.out.2.2.2 B9.out.2.2.2).alloc (.cells #[.int .i64 1, .int .u64 4095] 45))))))
  have H11 := Lib.hid ((show MemAt R9 w10 M _ 4 mpA from h10).below ((Below.refl w10.heap.size w10).alloc (Nat.le_refl _) (.cells #[.int .i64 1, .int .u64 4095] 45)))
  clear h10 k10 K9 S9 H9 O9 B9
  have f10 := O11.out.2.2.2.1.cell (i := 0) (by omega)
  have f20 := O11.out.2.2.1.cell (i := 0) (by omega)
  have f30 := O11.out.2.1.cell (i := 0) (by omega)
  have f31 := O11.out.2.1.cell (i := 1) (by omega)
  have s1 := run_one (v := 7) O11.out.2.2.2.2 byteA
  have t7 : (strOfNums [7]).toList = [7] := by kernel_rfl
  simp only [if_pos, if_neg, Nat.one_ne_zero, if_true, if_false] at f10 f20 f30 f31
  go_wp2_with (go_at_call 22; refine (free_any R9 _ M _ 4 mpA H11.out).mono ?_; rintro e w12 ⟨rfl, n12, rfl⟩)
  go_ret
  exact ⟨rfl, below_drewN (K11.out.below (fun k hk => hk)) n12⟩
end Go.Proofs.Ytlifaldbdjcgjaa
