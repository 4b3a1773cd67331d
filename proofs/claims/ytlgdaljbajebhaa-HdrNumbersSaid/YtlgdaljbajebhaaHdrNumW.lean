/- HdrNumbers: the walk. -/
import Derived.Test.YtlgdaljbajebhaaHdrNumbers
import Derived.Deep.RegionHeld3
namespace Go.Proofs.Ytlgdaljbajebhaa
open Go.ChangeShapes Go.WideShapes Go.ChangeAt Go.RowKit
set_option linter.unusedVariables false

theorem nand_15 (n : Int) : bits .and .i64 n 15 = n % 16 := i64_mask n 4 (by omega)

set_option maxRecDepth 100000 in
set_option maxHeartbeats 4000000 in
theorem numbers_walk (base stamp chars entry which rva size : Int) (w : World) (b0 : 0 ≤ base) (b1 : base ≤ 18446744073709551615) (s0 : 0 ≤ stamp) (s1 : stamp ≤ 18446744073709551615) (c0 : 0 ≤ chars) (c1 : chars ≤ 18446744073709551615)
    (r0 : 0 ≤ rva) (r1 : rva ≤ 18446744073709551615) (z0 : 0 ≤ size) (z1 : size ≤ 18446744073709551615) :
    Calls Try.prog 8 #[.int .u64 base, .int .u64 stamp, .int .u64 chars, .int .i64 entry, .int .i64 which, .int .u64 rva, .int .u64 size] w fun e w' => e = .returned (.bool true) ∧ Below w.heap.size w w' := by
  have m1 := u64_and_mask b0 b1 16 (by omega)
  have m2 := and_1fff entry
  have m3 := nand_15 which
  have m4 := u64_and_mask s0 s1 32 (by omega)
  have m5 := u64_and_mask c0 c1 16 (by omega)
  have m6 := u64_and_mask r0 r1 32 (by omega)
  have m7 := u64_and_mask z0 z1 32 (by omega)
  simp only [show ((2 ^ 16 - 1 : Nat) : Int) = 65535 by rfl, show ((2 ^ 16 : Nat) : Int) = 65536 by rfl, show ((2 ^ 32 - 1 : Nat) : Int) = 4294967295 by rfl, show ((2 ^ 32 : Nat) : Int) = 4294967296 by rfl] at m1 m4 m5 m6 m7
  obtain ⟨B, hB⟩ : ∃ B, base % 65536 * 65536 + 65536 = B := ⟨_, rfl⟩
  obtain ⟨E, hE⟩ : ∃ E, entry % 8192 = E := ⟨_, rfl⟩
  obtain ⟨k, hk⟩ : ∃ k : Nat, which % 16 = k := ⟨(which % 16).toNat, by omega⟩
  have hk16 : k < 16 := by omega
  have hB1 : 65536 ≤ B := by omega
  have hB2 : B ≤ 4295032832 := by omega
  have hB0 := Lib.hid (show B % 65536 = 0 by omega)
  have hE0 : 0 ≤ E := by omega
  have hE1 : E < 8192 := by omega
  go_enter Try.func8, Try.ntmps8
  go_wp2_with fail
  refine (made_none none 0 L0 (fun _ => rfl) w).mono ?_
  rintro e w1 ⟨g1, d1, F, rfl, ho, hm, hb⟩
  rw [at0] at ho ⊢
  have HO1 := Lib.hid ho
  have HB1 := Lib.hid hb
  have HM := Lib.hid hm
  clear ho hb hm
  go_wp2_with fail
  refine (put_at w.heap.size _ _ _ _ _ _ 112 8 B _ HO1.out HB1.out.size rfl rfl (by omega) (by omega) (by omega) (by omega) (by omega) (by omega)).mono ?_
  rintro e w2 ⟨g2, d2, rfl, ho, hb⟩
  have HO2 := Lib.hid ho
  have HB2 := Lib.hid (HB1.out.trans (hb.mono HB1.out.size))
  clear ho hb HO1 HB1
  go_wp2_with fail
  refine (put_at w.heap.size _ _ _ _ _ _ 72 4 stamp _ HO2.out HB2.out.size rfl rfl (by omega) (by omega) (by omega) (by omega) (by omega) (by omega)).mono ?_
  rintro e w3 ⟨g3, d3, rfl, ho, hb⟩
  have HO3 := Lib.hid ho
  have HB3 := Lib.hid (HB2.out.trans (hb.mono HB2.out.size))
  clear ho hb HO2 HB2
  go_wp2_with fail
  refine (put_at w.heap.size _ _ _ _ _ _ 86 2 chars _ HO3.out HB3.out.size rfl rfl (by omega) (by omega) (by omega) (by omega) (by omega) (by omega)).mono ?_
  rintro e w4 ⟨g4, d4, rfl, ho, hb⟩
  have HO4 := Lib.hid ho
  have HB4 := Lib.hid (HB3.out.trans (hb.mono HB3.out.size))
  clear ho hb HO3 HB3
  go_wp2_with fail
  refine (put_at w.heap.size _ _ _ _ _ _ 104 4 E _ HO4.out HB4.out.size rfl rfl (by omega) (by omega) (by omega) (by omega) (by omega) (by omega)).mono ?_
  rintro e w5 ⟨g5, d5, rfl, ho, hb⟩
  have HO5 := Lib.hid ho
  have HB5 := Lib.hid (HB4.out.trans (hb.mono HB4.out.size))
  clear ho hb HO4 HB4
  go_wp2_with fail
  refine (put_at w.heap.size _ _ _ _ _ _ (200 + 8 * k) 4 rva _ HO5.out HB5.out.size (by omega) rfl (by omega) (by omega) (by omega) (by omega) (by omega) (by omega)).mono ?_
  rintro e w6 ⟨g6, d6, rfl, ho, hb⟩
  have HO6 := Lib.hid ho
  have HB6 := Lib.hid (HB5.out.trans (hb.mono HB5.out.size))
  clear ho hb HO5 HB5
  go_wp2_with fail
  refine (put_at w.heap.size _ _ _ _ _ _ (204 + 8 * k) 4 size _ HO6.out HB6.out.size (by omega) rfl (by omega) (by omega) (by omega) (by omega) (by omega) (by omega)).mono ?_
  rintro e w7 ⟨g7, d7, rfl, ho, hb⟩
  have HO7 := Lib.hid ho
  have HB7 := Lib.hid (HB6.out.trans (hb.mono HB6.out.size))
  clear ho hb HO6 HB6
  have HN := Lib.hid (numF_img HM.out B stamp chars E k rva size hk16 hB0.out hB1 (by omega) hE0 hE1)
  have HRD := Lib.hid (numF_reads HM.out B stamp chars E k rva size hk16 hB1 (by omega) hE0 hE1)
  have HO : Hid (OwnC w7 w.heap.size g7 1536 d7 (numF F B stamp chars E k rva size)) := HO7
  clear HO7 HM
  generalize numF F B stamp chars E k rva size = F' at *
  go_wp2_with fail
  refine (hparse_any g7 0 _ d7 F' w7 HO.out.rowB).mono ?_
  rintro e w8 ⟨⟨v, rfl, hr⟩, hb⟩
  obtain ⟨cs2, g8, rfl, hv, hsl, hg⟩ := hr.is HN.out
  have HB8 := Lib.hid (HB7.out.trans (hb.mono HB7.out.size))
  have hone := hv.one rfl
  have hcz := hv.size
  obtain ⟨e0, e1, e2, e3, e4, e5⟩ := HRD.out
  have q0 := hv.c0
  have q1 := hv.c1
  have q2 := hv.c2
  have q3 := hv.c3
  have q6 := hv.dir0 k hk16
  have q7 := hv.dir1 k hk16
  have q38 := hv.c38
  rw [e0] at q0
  rw [e1] at q1
  rw [e2] at q2
  rw [e3] at q3
  rw [e4] at q6 q7
  rw [e5] at hsl
  have d0 := (hsl.at6 0 (by simp)).1
  have HA := Lib.hid awake5_any
  rw [Nat.mul_comm 2 k] at q6 q7
  clear hb hr HB7 HO hsl e0 e1 e2 e3 e4 e5 HN HRD
  go_wp2_with (first
    | (refine wpList_store_row rfl 32 _ _ rfl w8.heap.size cs2 rfl rfl 32 _ (heap_alloc_new _ _) (by rw [hcz]; rfl) (by rw [hcz]; rfl) hone ?_
       rw [zero_head]
       have hg9 := setRow_heap (w8.alloc (.cells (headC 0 0 0 0 0 0) 32)) w8.heap.size _ cs2 _ _ (heap_alloc_new _ _)
       have hb : Below w8.heap.size w8 ((w8.alloc (.cells (headC 0 0 0 0 0 0) 32)).setRow w8.heap.size cs2) := below_setRow ((Below.refl _ w8).alloc (Nat.le_refl _) _) (Nat.le_refl _) _
       have HB9 := Lib.hid (HB8.out.trans (hb.mono HB8.out.size))
       have d0' := (hb.cell (p := ⟨g8, 0 * 6, none⟩) hg).trans d0
       clear hb d0
       generalize (w8.alloc (.cells (headC 0 0 0 0 0 0) 32)).setRow w8.heap.size cs2 = w9 at *
       generalize w8.heap.size = gh at *
       have k0 := (cell_of_row _ _ 0 _ _ _ hg9).trans q0
       have k1 := (cell_of_row _ _ 1 _ _ _ hg9).trans q1
       have k2 := (cell_of_row _ _ 2 _ _ _ hg9).trans q2
       have k3 := (cell_of_row _ _ 3 _ _ _ hg9).trans q3
       have k6 := (cell_of_row _ _ _ _ _ _ hg9).trans q6
       have k7 := (cell_of_row _ _ _ _ _ _ hg9).trans q7
       have k38 := (cell_of_row _ _ 38 _ _ _ hg9).trans q38
       clear hg9 q0 q1 q2 q3 q6 q7 q38)
    | (go_fit (HA.out _); rintro e w' ⟨rfl, hb⟩))
  go_ret
  exact ⟨rfl, HB9.out.trans (hb.mono HB9.out.size)⟩
end Go.Proofs.Ytlgdaljbajebhaa
