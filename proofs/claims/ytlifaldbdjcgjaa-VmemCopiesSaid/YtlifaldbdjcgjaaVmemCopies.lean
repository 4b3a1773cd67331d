/- law 3: VmemCopies. -/
import Derived.Test.YtlifaldbdjcgjaaCopiesM
import Derived.Test.YtlifaldbdjcgjaaVawake
import Derived.RegionTactic
import Derived.BigRegion
namespace Go.Proofs.Ytlifaldbdjcgjaa
open Go.ChangeShapes Go.WideShapes Go.ChangeAt Go.RowKit
open Go.Maps (Keyed)
set_option linter.unusedVariables false
set_option linter.unusedSimpArgs false

theorem and_8191 (n : Int) : bits .and .i64 n 8191 = n % 8192 := i64_mask n 13 (by omega)

theorem SrcR.kept {R : Nat → Prop} {w W : World} {A : Option Addr} {n : Nat} {h : Nat → Int} (hs : SrcR R w A n h) (k : Kept R w W) : SrcR R W A n h := by
  rcases hs with e | ⟨g, off, hA, hg, hr⟩
  · exact .inl e
  · exact .inr ⟨g, off, hA, hg, fun j hj => (k.cell (p := ⟨g, off + j, none⟩) hg).trans (hr j hj)⟩

theorem row_of_own {w : World} {g n : Nat} {f : Nat → Value} {h : Nat → Int} (ho : Own w g n f) (e : ∀ q, q < n → f q = .int .u8 (h q)) : Row w g 0 n h := fun i hi => by
  rw [Nat.zero_add, ho.cell hi, e i hi]

set_option maxRecDepth 100000 in
set_option maxHeartbeats 4000000 in
theorem copies_core (w : World) (at' : Int) (A1 A2 : Nat) (o1 o2 la lb capa capb : Nat) (ha hb : Nat → Int) (hla : 0 < la) (hlb : 0 < lb) (hla2 : la ≤ 2000) (hlb2 : lb ≤ 2000) (hca : la ≤ capa) (hcb : lb ≤ capb) (hca2 : capa ≤ 9223372036854775807) (hcb2 : capb ≤ 9223372036854775807)
    (hA1 : A1 < w.heap.size) (hA2 : A2 < w.heap.size) (hra : Row w A1 o1 la ha) (hrb : Row w A2 o2 lb hb) (mx : Nat) (hmx : max (la : Int) (lb : Int) = mx) (hm1 : la ≤ mx) (hm2 : lb ≤ mx) (hm3 : mx ≤ 2000) :
    Calls Try.prog 11 #[.slice (some ⟨A1, o1, none⟩) la capa, .slice (some ⟨A2, o2, none⟩) lb capb, .int .i64 at'] w fun e w' => e = .returned (.bool true) ∧ Below w.heap.size w w' := by
  have HSA : Hid (SrcR (· < w.heap.size) w (some ⟨A1, o1, none⟩) la ha) := .inr ⟨A1, o1, rfl, hA1, hra⟩
  have HSB : Hid (SrcR (· < w.heap.size) w (some ⟨A2, o2, none⟩) lb hb) := .inr ⟨A2, o2, rfl, hA2, hrb⟩
  have HNM := Lib.hid (newMem_any (· < w.heap.size) w 4 (fun _ h => h) (by omega) (by omega))
  obtain ⟨K, hK⟩ : ∃ K : Nat, at' % 8192 = K := ⟨(at' % 8192).toNat, by omega⟩
  have hKb := (and_8191 at').trans hK
  have hD : (8193 - (mx : Int)) = ((8193 - mx : Nat) : Int) := by omega
  obtain ⟨T, hTm⟩ : ∃ T : Nat, K % (8193 - mx) = T := ⟨_, rfl⟩
  have hT : Int.tmod (K : Int) (8193 - (mx : Int)) = T := by rw [hD, ← hTm]; rfl
  have hT2 : T + mx ≤ 8192 := by
    have := Nat.mod_lt K (show 0 < 8193 - mx by omega)
    omega
  have HTA := Lib.hid (show T + la ≤ 8192 by omega)
  have HTB := Lib.hid (show T + lb ≤ 8192 by omega)
  have hT3 : T ≤ 8192 := by omega
  have HLA := Lib.hid (And.intro hla (And.intro hla2 (And.intro hca hca2)))
  have HLB := Lib.hid (And.intro hlb (And.intro hlb2 (And.intro hcb hcb2)))
  have e1 : ((la : Int) == 0) = false := by simp; omega
  have e2 : ((lb : Int) == 0) = false := by simp; omega
  have e3 : decide ((2000 : Int) < la) = false := decide_eq_false (by omega)
  have e4 : decide ((2000 : Int) < lb) = false := decide_eq_false (by omega)
  have e5 : ((8193 - (mx : Int)) == 0) = false := by simp; omega
  have e6 : (8193 - (mx : Int)) ≠ 0 := by omega
  have HRA := Lib.hid (And.intro hA1 hra)
  have HRB := Lib.hid (And.intro hA2 hrb)
  clear hTm hK hD hra hrb hla hlb hla2 hlb2 hca hcb hca2 hcb2 hT2 hm1 hm2
  go_enter Try.func11, Try.ntmps11
  go_wp2_with fail
  refine HNM.out.mono ?_
  rintro e w1 ⟨M, rfl, h1, k1⟩
  have H1 := Lib.hid h1
  have K1 := Lib.hid k1
  clear h1 k1 HNM
  go_wp2_with fail
  refine (map_core (· < w.heap.size) w1 M 0 4 (fun _ => none) 4096 9 2 (by omega) ⟨by omega, by omega, by omega, by omega⟩ (by omega) (by omega) (fun _ _ => rfl) (by omega) H1.out).mono ?_
  rintro e w2 ⟨rfl, h2, k2⟩
  have H2 := Lib.hid (show MemAt (· < w.heap.size) w2 M 2 4 q0 from h2)
  have K2 := Lib.hid (K1.out.trans k2)
  clear h2 k2 H1 K1
  --M1
  go_wp2_with fail
  refine (poke_yes (· < w.heap.size) w2 M 2 4 q0 (4096 + T) _ la capa ha (by omega) (by have := HTA.out; omega) (by have := HLA.out.2.1; omega) HLA.out.2.2.1 HLA.out.2.2.2 (q0_in HTA.out) (HSA.out.kept K2.out) H2.out).mono ?_
  rintro e w3 ⟨rfl, h3, k3⟩
  have H3 := Lib.hid (show MemAt (· < w.heap.size) w3 M 2 4 (q1 T la ha) from h3)
  have K3 := Lib.hid (K2.out.trans k3)
  clear h3 k3 H2 K2
  --M2
  go_wp2_with fail
  refine (copy_any (· < w.heap.size) w3 M 2 4 (q1 T la ha) H3.out).mono ?_
  rintro e w4 ⟨C, rfl, h4, b4⟩
  have H4 := Lib.hid h4
  have B4 := Lib.hid b4
  have HSB4 : Hid (SrcR (· < w3.heap.size) w4 (some ⟨A2, o2, none⟩) lb hb) := by
    rcases HSB.out.kept (K3.out.trans (Kept.of_below b4 (fun k hk => Nat.lt_of_lt_of_le hk K3.out.size))) with e | ⟨g, off, hA, hg, hr⟩
    · exact .inl e
    · exact .inr ⟨g, off, hA, Nat.lt_of_lt_of_le hg K3.out.size, hr⟩
  clear h4 b4
  --M3
  go_wp2_with fail
  refine (poke_yes (· < w3.heap.size) w4 C 2 4 (q1 T la ha) (4096 + T) _ lb capb hb (by omega) (by have := HTB.out; omega) (by have := HLB.out.2.1; omega) HLB.out.2.2.1 HLB.out.2.2.2 (q1_in HTB.out) HSB4.out H4.out).mono ?_
  rintro e w5 ⟨rfl, h5, k5⟩
  have H5 := Lib.hid (show MemAt (· < w3.heap.size) w5 C 2 4 (q2 T la lb ha hb) from h5)
  have K5 := Lib.hid k5
  clear h5 k5 H4 HSB4
  obtain ⟨gc, hgc⟩ := q2_lo T la lb ha hb
  have HGC := Lib.hid hgc
  clear hgc
  --M4
  go_wp2_with fail
  refine (protect_one (· < w3.heap.size) w5 C 2 4 (q2 T la lb ha hb) 4096 2 gc (by omega) ⟨by omega, by omega, by omega, by omega⟩ (by omega) (by omega) HGC.out H5.out).mono ?_
  rintro e w6 ⟨rfl, h6, k6⟩
  have H6 := Lib.hid (show MemAt (· < w3.heap.size) w6 C 2 4 (q3 T la lb ha hb gc) from h6)
  have K6 := Lib.hid (K5.out.trans k6)
  clear h6 k6 H5 K5
  --M5
  go_wp2_with fail
  refine (map_core (· < w3.heap.size) w6 C 2 4 (q3 T la lb ha hb gc) 1048576 7 1 (by omega) ⟨by omega, by omega, by omega, by omega⟩ (by omega) (by omega) (fun i hi => q3_free i hi) (by omega) H6.out).mono ?_
  rintro e w7 ⟨rfl, h7, k7⟩
  have X7 := Lib.hid (two_of H3.out K3.out B4.out (show MemAt (· < w3.heap.size) w7 C 3 4 (q4 T la lb ha hb gc) from h7) (K6.out.trans k7))
  clear h7 k7 H6 K6 H3 K3 B4
  --M6
  go_wp2_with fail
  refine (peek_yes (· < w.heap.size) w7 M 2 4 (q1 T la ha) (4096 + T) la (by omega) (by have := HTA.out; omega) (by have := HLA.out.2.1; omega) (q1_in HTA.out) X7.out.m).mono ?_
  rintro e w8 ⟨rfl, b8, ho8⟩
  have X8 := Lib.hid (X7.out.below b8)
  have B8 := Lib.hid b8
  have O8 := Lib.hid ho8
  have s1 := run_str (cap := la) (row_of_own (h := ha) ho8 (fun q hq => by rw [q1_byte HTA.out q hq]))
  have s2 := run_str (cap := capa) (show Row w8 A1 o1 la ha from fun i hi => (X8.out.k.cell (p := ⟨A1, o1 + i, none⟩) HRA.out.1).trans (HRA.out.2 i hi))
  have c8 := ho8.cell (i := 0) HLA.out.1
  have z8 := ho8.frozen (i := 0) HLA.out.1
  have hla := HLA.out.1
  clear b8 ho8
  --M7
  go_wp2_with fail
  have X9 : Hid (Two w (w8.setCell ⟨w7.heap.size, 0, none⟩ (.int .u8 ((byteAt (q1 T la ha) (4096 + (T : Int)) + 1) % 256))) M C (q1 T la ha) (q4 T la lb ha hb gc)) := X7.out.far B8.out (Nat.le_refl _) O8.out.1 _
  clear s1 s2 c8 z8 X8 B8 O8 X7 hla
  generalize w8.setCell ⟨w7.heap.size, 0, none⟩ (.int .u8 ((byteAt (q1 T la ha) (4096 + (T : Int)) + 1) % 256)) = w9 at *
  refine (pages_two (· < w.heap.size) w9 M 4 (q1 T la ha) X9.out.m 4096 8192 (by omega) (fun x h => q1_keys x h)).mono ?_
  rintro e w10 ⟨g10, cap10, rfl, hg10, ho10, b10⟩
  have X11 : Hid (Two w (w10.setCell ⟨g10, 0, none⟩ (.int .u64 0)) M C (q1 T la ha) (q4 T la lb ha hb gc)) := X9.out.far b10 hg10 ho10.1 _
  have c10 := ho10.cell (i := 0) (by omega)
  have z10 := ho10.frozen (i := 0) (by omega)
  clear b10 ho10 X9
  --M8
  go_wp2_with fail
  clear c10 z10 hg10
  generalize w10.setCell ⟨g10, 0, none⟩ (.int .u64 0) = w11 at *
  refine (peek_yes (· < w.heap.size) w11 M 2 4 (q1 T la ha) (4096 + T) la (by omega) (by have := HTA.out; omega) (by have := HLA.out.2.1; omega) (q1_in HTA.out) X11.out.m).mono ?_
  rintro e w12 ⟨rfl, b12, ho12⟩
  have X12 := Lib.hid (X11.out.below b12)
  have O12 := Lib.hid (show Row w12 w11.heap.size 0 la ha from row_of_own ho12 (fun q hq => by rw [q1_byte HTA.out q hq]))
  have L12 := Lib.hid ho12.1
  clear b12 ho12 X11
  obtain ⟨g1, hg1, hp1⟩ := q1_lo T la ha
  have HG1 := Lib.hid (And.intro hg1 hp1)
  clear hg1 hp1
  --M9
  go_wp2_with fail
  refine (prot_yes (· < w.heap.size) w12 M 2 4 (q1 T la ha) 4096 g1 (by omega) (by omega) X12.out.m HG1.out.1).mono ?_
  rintro e w13 ⟨rfl, n13, hn13⟩
  have X13 := Lib.hid (show Two w w13 M C (q1 T la ha) (q4 T la lb ha hb gc) by rw [hn13]; exact X12.out.drewN n13)
  have O13 := Lib.hid (show Row w13 w11.heap.size 0 la ha by rw [hn13]; exact O12.out)
  have L13 := Lib.hid (show w11.heap.size < w13.heap.size by rw [hn13]; exact L12.out)
  have p9 := HG1.out.2
  clear hn13 O12 X12 L12 HG1
  --M10
  go_wp2_with fail
  refine (peek_yes (· < w.heap.size) w13 C 3 4 (q4 T la lb ha hb gc) (4096 + T) lb (by omega) (by have := HTB.out; omega) (by have := HLB.out.2.1; omega) (q4_in HTB.out) X13.out.c).mono ?_
  rintro e w14 ⟨rfl, b14, ho14⟩
  have X14 := Lib.hid (X13.out.below b14)
  have O14 := Lib.hid (show Row w14 w13.heap.size 0 lb hb from row_of_own ho14 (fun q hq => by rw [q4_byte HGC.out HTB.out q hq]))
  have L14 := Lib.hid ho14.1
  have s1 := run_str (cap := la) (show Row w14 w11.heap.size 0 la ha from fun i hi => (World.cell?_of_block (a := ⟨w11.heap.size, 0 + i, none⟩) (b14.block _ L13.out)).trans (O13.out i hi))
  have s2 := run_str (cap := capa) (show Row w14 A1 o1 la ha from fun i hi => (X14.out.k.cell (p := ⟨A1, o1 + i, none⟩) HRA.out.1).trans (HRA.out.2 i hi))
  clear b14 ho14 O13 X13 L13
  --M11
  go_wp2_with fail
  clear s1 s2
  refine (pages_two (· < w.heap.size) w14 M 4 (q1 T la ha) X14.out.m 4096 8192 (by omega) (fun x h => q1_keys x h)).mono ?_
  rintro e w15 ⟨g15, cap15, rfl, hg15, ho15, b15⟩
  have X15 := Lib.hid (X14.out.below b15)
  have O15 := Lib.hid (show Row w15 w13.heap.size 0 lb hb from fun i hi => (World.cell?_of_block (a := ⟨w13.heap.size, 0 + i, none⟩) (b15.block _ L14.out)).trans (O14.out i hi))
  have L15 := Lib.hid (show w13.heap.size < w15.heap.size from Nat.lt_of_lt_of_le L14.out b15.size)
  clear b15 ho15 hg15 O14 X14 L14
  --M12
  go_wp2_with fail
  refine (pages_two (· < w.heap.size) w15 M 4 (q1 T la ha) X15.out.m 4096 8192 (by omega) (fun x h => q1_keys x h)).mono ?_
  rintro e w16 ⟨g16, cap16, rfl, hg16, ho16, b16⟩
  have X16 := Lib.hid (X15.out.below b16)
  have s1 := run_str (cap := lb) (show Row w16 w13.heap.size 0 lb hb from fun i hi => (World.cell?_of_block (a := ⟨w13.heap.size, 0 + i, none⟩) (b16.block _ L15.out)).trans (O15.out i hi))
  have s2 := run_str (cap := capb) (show Row w16 A2 o2 lb hb from fun i hi => (X16.out.k.cell (p := ⟨A2, o2 + i, none⟩) HRB.out.1).trans (HRB.out.2 i hi))
  have c16 : w16.cell? ⟨g16, 0, none⟩ = some (.int .u64 4096) := ho16.cell (i := 0) (by omega)
  clear b16 ho16 hg16 O15 X15 L15
  --M13
  go_wp2_with fail
  clear s1 s2 c16
  refine (pages_any (· < w.heap.size) w16 C 3 4 (q4 T la lb ha hb gc) X16.out.c (by omega) (by omega)).mono ?_
  rintro e w17 ⟨g17, cap17, rfl, _, _, b17⟩
  have X17 := Lib.hid (X16.out.below b17)
  clear b17 X16
  --M14
  go_wp2_with fail
  refine (awake3_any w17).mono ?_
  rintro e w18 ⟨rfl, b18⟩
  have X18 := Lib.hid (X17.out.below b18)
  clear b18 X17
  --M15
  go_wp2
  go_ret
  exact ⟨rfl, X18.out.k.below (fun k hk => hk)⟩
end Go.Proofs.Ytlifaldbdjcgjaa
