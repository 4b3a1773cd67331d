/- the document's answer on sites: Rels. -/
import Derived.Test.YtcommphfjkggkaaRRelA
import Derived.Deep.Cut
import Derived.Deep.CutRange
import Derived.Deep.RegionHeld3
import Derived.Deep.DrawnRows
import Derived.Deep.DeepFit
import Derived.BigQuiet
namespace Go.Proofs.Ytcommphfjkggkaa
open Go.ChangeShapes Go.WideShapes Go.ChangeAt Go.RowKit
set_option linter.unusedVariables false

theorem wide_q (k : Int) (w : World) : Calls Try.prog 34 #[.int .i64 k] w fun e w' => e = .returned (.int .i64 (relLen k)) ∧ w' = w := (wide_any k w).mono fun e w' h => ⟨h.1, h.2.symm⟩

theorem rint_at (S : ByteArray) (o n : Nat) (w : World) (hs : S.size ≤ 1000000) (hn : n ≤ 4) (h : o + n ≤ S.size) :
    Calls Try.prog 33 #[.string S, .int .i64 o, .int .i64 n] w fun e w' => e = .returned (.int .i64 (rdF (PlainAid.bt S) o n)) ∧ w' = w := by
  have HR := Lib.hid (rnum_yes S o n w (by omega) (by omega) h)
  have hb := rdF_bd (PlainAid.bt S) (bt255 S) n o
  have hp : (256 : Int) ^ n ≤ 4294967296 := by
    rcases (by omega : n = 0 ∨ n = 1 ∨ n = 2 ∨ n = 3 ∨ n = 4) with rfl | rfl | rfl | rfl | rfl <;> decide
  have h1 : rdF (PlainAid.bt S) o n < 4294967296 := by omega
  have h0 := hb.1
  clear hb hp
  generalize rdF (PlainAid.bt S) o n = x at *
  go_enter Try.func33, Try.ntmps33
  go_wp2_with (go_fit HR.out; rintro e u ⟨rfl, rfl⟩)
  go_ret
  exact ⟨rfl, rfl⟩

/-- What the document's Rels answers. -/
def RelsR (w w' : World) (r : Option (List Site)) (e : Ending) : Prop :=
  (match r with
   | none => e = .returned (.tuple #[.slice none 0 0, .int .i64 9])
   | some l => ∃ A cap, e = .returned (.tuple #[.slice A l.length cap, .int .i64 0]) ∧ SlT relC 2 w' A l) ∧ Below w.heap.size w w'

/-- What stands between two entries. -/
structure RState (w wr : World) (A : Option Addr) (cap : Nat) (l : List Site) (R Z : Int) : Prop where
  own : OwnT relC 2 wr (w.heap.size + 1) 30 (.slice A l.length cap) l
  dir : Own wr w.heap.size 2 (fun i => if i = 0 then .int .i64 R else .int .i64 Z)
  bel : Below w.heap.size w wr
  len : l.length ≤ 512
  small : ∀ y ∈ l, -4611686018427387904 ≤ y.2 ∧ y.2 ≤ 4611686018427387904

theorem RState.below {w wr wr' : World} {A : Option Addr} {cap : Nat} {l : List Site} {R Z : Int} (h : RState w wr A cap l R Z) (hb : Below wr.heap.size wr wr') : RState w wr' A cap l R Z :=
  ⟨h.own.below hb, h.dir.below hb h.dir.1, h.bel.trans (hb.mono h.bel.size), h.len, h.small⟩
theorem RState.drewN {w wr : World} {A : Option Addr} {cap : Nat} {l : List Site} {R Z : Int} (h : RState w wr A cap l R Z) (n : Nat) : RState w (wr.drewN n) A cap l R Z := h.below (belD (Below.refl _ _) n)

theorem headS_no {f : Nat → Int} {o e : Nat} (h : e < o + 8 ∨ rdF f o 4 % 4096 ≠ 0 ∨ rdF f (o + 4) 4 < 8 ∨ rdF f (o + 4) 4 % 4 ≠ 0 ∨ (e : Int) - o < rdF f (o + 4) 4) : headS f o e = none := by
  unfold headS
  by_cases c : e < o + 8
  · rw [if_pos c]
  · rw [if_neg c, if_pos (by omega)]
theorem headS_yes {f : Nat → Int} {o e : Nat} (h : ¬ (e < o + 8 ∨ rdF f o 4 % 4096 ≠ 0 ∨ rdF f (o + 4) 4 < 8 ∨ rdF f (o + 4) 4 % 4 ≠ 0 ∨ (e : Int) - o < rdF f (o + 4) 4)) : headS f o e = some (rdF f o 4, rdF f (o + 4) 4) := by
  unfold headS
  rw [if_neg (by omega), if_neg (by omega)]

set_option maxRecDepth 100000 in
set_option maxHeartbeats 4000000 in
theorem rrels_any (S : ByteArray) (r s : Int) (w : World) (hs : S.size ≤ 1000000)
    (r0 : -9223372036854775808 ≤ r) (r1 : r ≤ 9223372036854775807) (s0 : -9223372036854775808 ≤ s) (s1 : s ≤ 9223372036854775807) :
    Calls Try.prog 18 #[.string S, .agg #[.int .i64 r, .int .i64 s]] w fun e w' => RelsR w w' (parseS S.size (PlainAid.bt S) r s) e := by
  have H255 := Lib.hid (bt255 S)
  have hint0 := fun (o k : Nat) (W : World) (hk : k ≤ 4) (ho : o + k ≤ S.size) => rint_at S o k W hs hk ho
  obtain ⟨f, hf⟩ : ∃ f, PlainAid.bt S = f := ⟨_, rfl⟩
  rw [hf] at H255 hint0 ⊢
  have HINT := Lib.hid hint0
  clear hf hint0
  obtain ⟨res, hres⟩ : ∃ res, parseS S.size f r s = res := ⟨_, rfl⟩
  rw [hres]
  have HRS := Lib.hid hres
  clear hres
  have HB0 := Lib.hid ((Below.refl w.heap.size w).alloc (Nat.le_refl _) (.cells #[.int .i64 r, .int .i64 s] 24))
  by_cases c0 : r = 0
  · subst c0
    have h := HRS.out
    unfold parseS at h
    rw [if_pos rfl] at h
    subst h
    go_enter Try.func18, Try.ntmps18
    go_wp2_with fail
    go_ret2
    exact ⟨⟨none, 0, rfl, .inl rfl⟩, HB0.out⟩
  · have e0 : (r == 0) = false := by simpa using c0
    by_cases c1 : 0 ≤ r ∧ 0 ≤ s ∧ r ≤ S.size - s
    · obtain ⟨c1, c2, c3⟩ := c1
      obtain ⟨R, rfl⟩ : ∃ R : Nat, r = R := ⟨r.toNat, by omega⟩
      obtain ⟨Z, rfl⟩ : ∃ Z : Nat, s = Z := ⟨s.toNat, by omega⟩
      have HIN := Lib.hid (fun W : World => in_yes S.size R Z W (by omega) c1 c2 c3)
      have hsp : blocksS S.size f (R + Z) (Z + 1) R [] = res := by
        have h := HRS.out
        unfold parseS at h
        rw [if_neg c0, if_neg (fun h => h ⟨c1, c2, c3⟩)] at h
        simpa using h
      have HSP := Lib.hid hsp
      have HST := Lib.hid (show RState w (w.alloc (.cells #[.int .i64 R, .int .i64 Z] 24)) none 0 [] R Z from ⟨OwnT.nil _ _ _, own_two w (.int .i64 R) (.int .i64 Z) 24, HB0.out, by simp, fun y hy => by simp at hy⟩)
      clear hsp HRS c0 r0 r1 s0 s1 HB0
      have hRZ : R + Z ≤ S.size := by omega
      go_enter Try.func18, Try.ntmps18
      go_wp2_with (go_fit (HIN.out _); rintro e u ⟨rfl, rfl⟩)
      clear HIN e0 c1 c2 c3
      generalize w.alloc (.cells #[.int .i64 R, .int .i64 Z] 24) = w1 at HST ⊢
      go_loopw [6, 7] (fun v6 v7 wr => ∃ (a F : Nat) (l : List Site) (A' : Option Addr) (cap' : Nat), a ≤ Z ∧ Z < a + F ∧ v7 = .int .i64 a ∧ v6 = .slice A' l.length cap' ∧ RState w wr A' cap' l R Z ∧ blocksS S.size f (R + Z) F (R + a) l = res) (fun _ v7 _ => Z - (intOf v7).toNat)
      case atStart => exact ⟨0, Z + 1, [], none, 0, by omega, by omega, rfl, rfl, HST.out, HSP.out⟩
      case round =>
        obtain ⟨a, F, l, A', cap', ha, hF, rfl, rfl, hst, hsp⟩ := hrel
        clear HST HSP
        have HST := Lib.hid hst
        have HSP := Lib.hid hsp
        have t0 := hst.dir.cell (i := 0) (by omega)
        have t1 := hst.dir.cell (i := 1) (by omega)
        simp only [if_pos, if_neg, Nat.one_ne_zero] at t0 t1
        clear hst hsp
        by_cases hlt : a < Z
        · obtain ⟨F, rfl⟩ : ∃ F', F = F' + 1 := ⟨F - 1, by omega⟩
          have hsp := HSP.out
          unfold blocksS at hsp
          rw [if_neg (by omega)] at hsp
          by_cases c8 : Z - a < 8
          · rw [headS_no (.inl (by omega))] at hsp
            simp only at hsp
            subst hsp
            have c8' : (Z : Int) - a < 8 := by omega
            go_wp2_with fail
            go_ret2
            exact ⟨rfl, HST.out.bel⟩
          · have c8' : decide ((Z : Int) - a < 8) = false := decide_eq_false (by omega)
            have hp := rdF_bd f H255.out 4 (R + a)
            have hz := rdF_bd f H255.out 4 (R + a + 4)
            have HI1 := HINT.out (R + a) 4
            have HI2 := HINT.out (R + a + 4) 4
            have hyes : ¬ (rdF f (R + a) 4 % 4096 ≠ 0 ∨ rdF f (R + a + 4) 4 < 8 ∨ rdF f (R + a + 4) 4 % 4 ≠ 0 ∨ (Z : Int) - a < rdF f (R + a + 4) 4) → headS f (R + a) (R + Z) = some (rdF f (R + a) 4, rdF f (R + a + 4) 4) := fun h => headS_yes (by omega)
            have hno : (rdF f (R + a) 4 % 4096 ≠ 0 ∨ rdF f (R + a + 4) 4 < 8 ∨ rdF f (R + a + 4) 4 % 4 ≠ 0 ∨ (Z : Int) - a < rdF f (R + a + 4) 4) → headS f (R + a) (R + Z) = none := fun h => headS_no (by omega)
            obtain ⟨p, hpp⟩ : ∃ p, rdF f (R + a) 4 = p := ⟨_, rfl⟩
            obtain ⟨z, hzz⟩ : ∃ z, rdF f (R + a + 4) 4 = z := ⟨_, rfl⟩
            rw [hpp] at hp HI1 hyes hno
            rw [hzz] at hz HI2 hyes hno
            rw [show ((R + a : Nat) : Int) = (R : Int) + a by omega] at HI1
            rw [show ((R + a + 4 : Nat) : Int) = (R : Int) + a + 4 by omega] at HI2
            have HQ1 := Lib.hid (fun W : World => HI1 W (by omega) (by omega))
            have HQ2 := Lib.hid (fun W : World => HI2 W (by omega) (by omega))
            have HYES := Lib.hid hyes
            have HNO := Lib.hid hno
            have HSQ := Lib.hid hsp
            obtain ⟨p0, p1⟩ := hp
            obtain ⟨z0, z1⟩ := hz
            have p2 : p < 4294967296 := p1
            have z2 : z < 4294967296 := z1
            clear HI1 HI2 hyes hno hsp hpp hzz p1 z1 HSP c8
            go_wp2_with fail
            go_quiet ((first | (go_at_call 33; with_reducible exact Calls.quiet_of_same (HQ1.out _)) | (go_at_call 33; with_reducible exact Calls.quiet_of_same (HQ2.out _))))
            have HSTB := Lib.hid (HST.out.drewN nq)
            have t0b : (wr.drewN nq).cell? _ = _ := t0
            have t1b : (wr.drewN nq).cell? _ = _ := t1
            clear t0 t1 HST HQ1 HQ2
            generalize wr.drewN nq = wb at *
            go_upto_region 11 with fail
            have HT1 := Lib.hid (show p.tmod 4096 = 0 ↔ p % 4096 = 0 by rw [← Int.dvd_iff_tmod_eq_zero, ← Int.dvd_iff_emod_eq_zero])
            have HT2 := Lib.hid (show z.tmod 4 = 0 ↔ z % 4 = 0 by rw [← Int.dvd_iff_tmod_eq_zero, ← Int.dvd_iff_emod_eq_zero])
            go_cut [67] from 26 to 149 (fun v wx => ∃ bb : Bool, v = .bool bb ∧ (bb = true ↔ (p % 4096 ≠ 0 ∨ z < 8 ∨ z % 4 ≠ 0 ∨ (Z : Int) - a < z)) ∧ wb = wx)
            case first =>
              clear HSQ HYES HNO HSTB
              go_wp2_with fail
              all_goals go_meet
              all_goals
                case rel =>
                  refine ⟨_, rfl, ?_, rfl⟩
                  have q1 := HT1.out
                  have q2 := HT2.out
                  simp_all <;> omega
            case rest =>
              obtain ⟨bb, rfl, hbb, hw⟩ := hcut
              subst hw
              cases bb with
              | true =>
                have hsq := HSQ.out
                rw [HNO.out (hbb.1 rfl)] at hsq
                simp only at hsq
                subst hsq
                clear hbb t0b t1b
                go_wp2_with fail
                go_ret2
                exact ⟨rfl, HSTB.out.bel⟩
              | false =>
                have hok : ¬ (p % 4096 ≠ 0 ∨ z < 8 ∨ z % 4 ≠ 0 ∨ (Z : Int) - a < z) := fun h => by have := hbb.2 h; cases this
                have hsq := HSQ.out
                rw [HYES.out hok] at hsq
                simp only at hsq
                obtain ⟨K, rfl⟩ : ∃ K : Nat, z = (8 + 2 * K : Nat) := ⟨((z - 8) / 2).toNat, by omega⟩
                rw [show (((8 + 2 * K : Nat) : Int).toNat - 8) / 2 = K by omega, show ((8 + 2 * K : Nat) : Int).toNat = 8 + 2 * K by omega] at hsq
                obtain ⟨rr, hrr⟩ : ∃ rr, rowS S.size f p K (R + a + 8) l = rr := ⟨_, rfl⟩
                rw [hrr] at hsq
                have HRR := Lib.hid hrr
                have HSR := Lib.hid hsq
                have hK : R + a + 8 + 2 * K ≤ S.size := by omega
                have hKZ : a + 8 + 2 * K ≤ Z := by omega
                clear hok hbb hsq hrr HSQ HYES HNO z0 z2 t0b t1b HT1 HT2
                go_wp2_with fail
                try simp only [Int.natCast_add, Int.natCast_mul, Int.cast_ofNat_Int]
                go_loopw [6, 10] (fun v6 v10 wr => ∃ (q : Nat) (l : List Site) (A' : Option Addr) (cap' : Nat), q ≤ K ∧ v10 = .int .i64 (8 + 2 * (q : Int)) ∧ v6 = .slice A' l.length cap' ∧ RState w wr A' cap' l R Z ∧ rowS S.size f p (K - q) (R + a + 8 + 2 * q) l = rr) (fun _ v10 _ => (8 + 2 * K) - (intOf v10).toNat)
                case atStart => exact ⟨0, l, A', cap', by omega, by simp, rfl, HSTB.out, HRR.out⟩
                case round =>
                  clear HRR HSTB
                  obtain ⟨q, l, A', cap', hq, rfl, rfl, hst, hrs⟩ := hrel
                  have HST := Lib.hid hst
                  have HRS := Lib.hid hrs
                  have t0 := hst.dir.cell (i := 0) (by omega)
                  have t1 := hst.dir.cell (i := 1) (by omega)
                  simp only [if_pos, if_neg, Nat.one_ne_zero] at t0 t1
                  clear hst hrs
                  by_cases hlq : q < K
                  · have hu := HINT.out (R + a + 8 + 2 * q) 2
                    have hrs := HRS.out
                    obtain ⟨D, hD⟩ : ∃ D, K - q = D + 1 := ⟨K - q - 1, by omega⟩
                    rw [hD] at hrs
                    unfold rowS siteOf at hrs
                    have hv := rdF_bd f H255.out 2 (R + a + 8 + 2 * q)
                    obtain ⟨v, hvv⟩ : ∃ v, rdF f (R + a + 8 + 2 * q) 2 = v := ⟨_, rfl⟩
                    rw [hvv] at hu hrs hv
                    obtain ⟨v0, v1⟩ := hv
                    have v2 : v < 65536 := v1
                    rw [show ((R + a + 8 + 2 * q : Nat) : Int) = (R : Int) + a + (8 + 2 * (q : Int)) by omega] at hu
                    have HU := Lib.hid (fun W : World => (hu W (by omega) (by omega)).mono fun e w' h => And.intro h.1 h.2.symm)
                    have HRS2 := Lib.hid hrs
                    have hmm := and_4095 v
                    have HD2 := Lib.hid (show K - (q + 1) = D by omega)
                    have HRST := Lib.hid (HST.out.below ((Below.refl _ wr).alloc (Nat.le_refl _) (.cells #[.int .i64 (v / 4096), .int .i64 (p + v % 4096)] 30)))
                    have hq64 : 0 ≤ v / 4096 := by omega
                    clear hu hrs hvv v1 hD HRS
                    by_cases d0 : v / 4096 = 0
                    · have hrs := HRS2.out
                      rw [if_pos d0] at hrs
                      have HRS3 := Lib.hid hrs
                      have e0 : (v / 4096 == 0) = true := by simp [d0]
                      clear hrs d0 HRS2
                      go_wp2_with (go_fit (HU.out _); rintro e u ⟨rfl, rfl⟩)
                      go_roundw
                      case rel => exact ⟨q + 1, l, A', cap', by omega, by go_num, rfl, HRST.out, by rw [HD2.out, show R + a + 8 + 2 * (q + 1) = R + a + 8 + 2 * q + 2 by omega]; exact HRS3.out⟩
                      case measure => simp [intOf]; omega
                    · have hrs := HRS2.out
                      rw [if_neg d0] at hrs
                      have HRS3 := Lib.hid hrs
                      have e0 : (v / 4096 == 0) = false := by simpa using d0
                      obtain ⟨N, hN⟩ : ∃ N : Nat, relLen (v / 4096) = N := ⟨(relLen (v / 4096)).toNat, by have := relLen_bd (v / 4096); omega⟩
                      have hw0 := fun W : World => wide_any (v / 4096) W
                      have hlb := relLen_bd (v / 4096)
                      rw [hN] at hlb hw0
                      have HW := Lib.hid hw0
                      have HN := Lib.hid hN
                      have HO0 := Lib.hid (own_two wr (.int .i64 (v / 4096)) (.int .i64 (p + v % 4096)) 30)
                      clear hrs d0 HRS2 hw0 hN
                      go_upto_region 20 with (first | (go_fit (HU.out _); rintro e u ⟨rfl, rfl⟩) | (go_fit (HW.out _); rintro e u ⟨rfl, rfl⟩))
                      have hxl : wr.heap.size < (wr.alloc (.cells #[.int .i64 (v / 4096), .int .i64 (p + v % 4096)] 30)).heap.size := by simp
                      have hxb : w.heap.size < wr.heap.size := HST.out.dir.1
                      clear HST HU HW t0 t1
                      generalize wr.alloc (.cells #[.int .i64 (v / 4096), .int .i64 (p + v % 4096)] 30) = w2 at *
                      generalize wr.heap.size = GX at *
                      have x0 := HO0.out.cell (i := 0) (by omega)
                      have x1 := HO0.out.cell (i := 1) (by omega)
                      simp only [if_pos, if_neg, Nat.one_ne_zero] at x0 x1
                      obtain ⟨xx, hxx⟩ : ∃ xx, p + v % 4096 = xx := ⟨_, rfl⟩
                      obtain ⟨kk, hkk⟩ : ∃ kk, v / 4096 = kk := ⟨_, rfl⟩
                      have hx0 : 0 ≤ xx := by omega
                      have hx1 : xx < 4294971392 := by omega
                      rw [hxx] at x1 HO0 HRS3
                      rw [hkk] at x0 HO0 HN HRS3 e0 hq64
                      clear hxx hkk hmm
                      have hl512 := HRST.out.len
                      go_cut [13, 109] from 68 to 146 (fun v13 v wx => v13 = .int .i64 N ∧ ∃ bb : Bool, v = .bool bb ∧ (bb = true ↔ ¬ (N ≠ 0 ∧ xx + N ≤ S.size ∧ l.length < 512)) ∧ w2 = wx)
                      case first =>
                        by_cases hin : xx + N ≤ S.size
                        · have HIN := Lib.hid (fun W : World => in_yes S.size xx N W (by omega) (by omega) (by omega) (by omega))
                          go_wp2_with (go_fit (HIN.out _); rintro e u ⟨rfl, rfl⟩)
                          all_goals go_meet
                          all_goals
                            case rel =>
                              refine ⟨by first | rfl | (congr 1; omega) | simp_all, _, rfl, ?_, rfl⟩
                              simp_all <;> omega
                        · have HIN := Lib.hid (fun W : World => in_no S.size xx N W (by omega) (by omega) (by omega))
                          go_wp2_with (go_fit (HIN.out _); rintro e u ⟨rfl, rfl⟩)
                          all_goals go_meet
                          all_goals
                            case rel =>
                              refine ⟨by first | rfl | (congr 1; omega) | simp_all, _, rfl, ?_, rfl⟩
                              simp_all <;> omega
                      case rest =>
                        obtain ⟨rfl, bb, rfl, hbb, hw⟩ := hcut
                        subst hw
                        cases bb with
                        | true =>
                          have hn : rr = none := by
                            have h := HRS3.out
                            rw [if_neg (fun hs => hbb.1 rfl ⟨by have := hs.1; simp only [HN.out] at this; omega, by have := hs.2.1; simp only [HN.out] at this; exact this, hs.2.2.1⟩)] at h
                            exact h.symm
                          have hsp := HSR.out
                          rw [hn] at hsp
                          simp only at hsp
                          subst hsp
                          clear hbb x0 x1
                          go_wp2_with fail
                          go_ret2
                          exact ⟨rfl, HRST.out.bel⟩
                        | false =>
                          have hok : N ≠ 0 ∧ xx + N ≤ S.size ∧ l.length < 512 := Classical.byContradiction (fun hx => by have := hbb.2 hx; cases this)
                          obtain ⟨k1, k2, k3⟩ := hok
                          clear hbb
                          go_wp2_with fail
                          go_loopw [14] (fun v14 wr => ∃ j : Nat, j ≤ l.length ∧ v14 = .int .i64 j ∧ (∀ i (h : i < l.length), i < j → l[i].2 + relLen l[i].1 ≤ xx ∨ xx + N ≤ l[i].2) ∧ ∃ d, wr = w2.drewN d) (fun v14 _ => l.length - (intOf v14).toNat)
                          case atStart => exact ⟨0, by omega, rfl, fun i h hi => by omega, 0, rfl⟩
                          case round =>
                            obtain ⟨j, hj, rfl, hfr, hd⟩ := hrel
                            have HDD := Lib.hid hd
                            have HFR := Lib.hid hfr
                            have x0' : wr.cell? ⟨GX, 0, none⟩ = some (.int .i64 kk) := by obtain ⟨d, rfl⟩ := hd; exact x0
                            have x1' : wr.cell? ⟨GX, 1, none⟩ = some (.int .i64 xx) := by obtain ⟨d, rfl⟩ := hd; exact x1
                            have HRW : Hid (RState w wr A' cap' l R Z) := Lib.hid (by obtain ⟨d, rfl⟩ := hd; exact HRST.out.drewN d)
                            have hgx : GX < wr.heap.size := by obtain ⟨d, rfl⟩ := hd; exact hxl
                            clear hd hfr
                            by_cases hlj : j < l.length
                            · obtain ⟨b1, off1, rfl, hbl1, y0, y1⟩ := (HRW.out.own.sl relC_len).site hlj
                              have HMEM := Lib.hid (List.getElem_mem hlj)
                              obtain ⟨y, hy⟩ : ∃ y, l[j] = y := ⟨_, rfl⟩
                              have HY := Lib.hid hy
                              rw [hy] at y0 y1 HMEM
                              clear hy
                              obtain ⟨yk, yr⟩ := y
                              simp only at y0 y1
                              obtain ⟨M, hM⟩ : ∃ M, relLen yk = M := ⟨_, rfl⟩
                              have hMb := relLen_bd yk
                              have hwq := fun W : World => wide_q yk W
                              rw [hM] at hMb hwq
                              have HWQ := Lib.hid hwq
                              have HM := Lib.hid hM
                              have hz : (0 : Int) ≤ (j : Int) := by omega
                              have hzl : (j : Int) < (l.length : Int) := by omega
                              clear hwq hM x0'
                              by_cases gy : -4611686018427387904 ≤ yr ∧ yr ≤ 4611686018427387904
                              · obtain ⟨gy0, gy1⟩ := gy
                                by_cases g1 : xx < yr + M
                                · have g1' : decide (xx < yr + M) = true := decide_eq_true g1
                                  by_cases g2 : yr < xx + N
                                  · have g2' : decide (yr < xx + (N : Int)) = true := decide_eq_true g2
                                    have hn : rr = none := by
                                      have h := HRS3.out
                                      rw [if_neg (fun hs => by have := hs.2.2.2 _ HMEM.out; simp only [HM.out, HN.out] at this; omega)] at h
                                      exact h.symm
                                    have hsp := HSR.out
                                    rw [hn] at hsp
                                    simp only at hsp
                                    subst hsp
                                    clear hn
                                    go_wp2_with fail
                                    go_quiet ((go_at_call 34; exact Calls.quiet_of_same (HWQ.out _)))
                                    go_wp2_with fail
                                    go_ret2
                                    exact ⟨rfl, belD HRW.out.bel _⟩
                                  · have g2' : decide (yr < xx + (N : Int)) = false := decide_eq_false g2
                                    go_wp2_with fail
                                    go_quiet ((go_at_call 34; exact Calls.quiet_of_same (HWQ.out _)))
                                    go_wp2_with fail
                                    go_roundw
                                    case rel => exact ⟨j + 1, by omega, by go_num, fun i h hi => by
                                      by_cases e : i = j
                                      · subst e; rw [HY.out]; simp only [HM.out]; omega
                                      · exact HFR.out i h (by omega), by obtain ⟨d, rfl⟩ := HDD.out; exact ⟨_, by rw [World.drewN_drewN]⟩⟩
                                    case measure => simp [intOf]; omega
                                · have g1' : decide (xx < yr + M) = false := decide_eq_false g1
                                  go_wp2_with fail
                                  go_quiet ((go_at_call 34; exact Calls.quiet_of_same (HWQ.out _)))
                                  go_wp2_with fail
                                  go_roundw
                                  case rel => exact ⟨j + 1, by omega, by go_num, fun i h hi => by
                                    by_cases e : i = j
                                    · subst e; rw [HY.out]; simp only [HM.out]; omega
                                    · exact HFR.out i h (by omega), by obtain ⟨d, rfl⟩ := HDD.out; exact ⟨_, by rw [World.drewN_drewN]⟩⟩
                                  case measure => simp [intOf]; omega
                              · exact absurd (HRW.out.small _ HMEM.out) (by simp only; omega)
                            · obtain rfl : j = l.length := by omega
                              have hrs := HRS3.out
                              rw [if_pos ⟨by simp only [HN.out]; omega, by simp only [HN.out]; exact k2, k3, fun y hy => by
                                obtain ⟨i, hi, rfl⟩ := List.mem_iff_getElem.1 hy
                                have := HFR.out i hi hi
                                simp only [HN.out]
                                omega⟩] at hrs
                              have HRS4 := Lib.hid hrs
                              have HOW := Lib.hid (HRW.out.own.alloc (.cells #[.int .i64 kk, .int .i64 xx] 30))
                              have HRX := Lib.hid (HRW.out.below ((Below.refl _ wr).alloc (Nat.le_refl _) (.cells #[.int .i64 kk, .int .i64 xx] 30)))
                              have HO3 := Lib.hid (own_two wr (.int .i64 kk) (.int .i64 xx) 30)
                              have hdl := HRW.out.dir.1
                              have HS1 := Lib.hid (show (wr.alloc (.cells #[.int .i64 kk, .int .i64 xx] 30)).heap.size = wr.heap.size + 1 by simp)
                              clear hrs hlj
                              go_wp2_with (at_builtin; refine wpList_appT rfl (.tmp 143) (.tmp 145) 25 rfl (w.heap.size + 1) 30 (.agg #[.int .i64 0, .int .i64 0]) 16 (by kernel_rfl) infoRel rfl (by omega) relC_len relC_one _ l rfl HOW.out wr.heap.size 1 rfl (kk, xx) ?ca (by unfold maxLen; omega) (by omega) (by have := HS1.out; omega) ?_; rotate_left; intro g' cap2 w3 hown3 hg3 hat3)
                              case ca =>
                                intro j u hu
                                have h := HO3.out.cell (i := j) (by have := (List.getElem?_eq_some_iff.1 hu).1; simpa [relC] using this)
                                rw [h]
                                rcases j with _ | _ | j
                                · simpa [relC] using hu
                                · simpa [relC] using hu
                                · simp [relC] at hu
                              have hb3 : Below (w.heap.size + 1) _ w3 := OwnT.grew HOW.out (Below.refl _ _) (Nat.le_refl _) (by have := HS1.out; omega) hg3
                              have HRN : Hid (RState w w3 (some ⟨g', 0, none⟩) cap2 (l ++ [(kk, xx)]) R Z) := Lib.hid ⟨by rw [List.length_append]; exact hown3, HRX.out.dir.below hb3 (by omega), HRX.out.bel.trans (hb3.mono (by omega)), by rw [List.length_append]; simp; omega, fun y hy => by
                                rcases List.mem_append.1 hy with hy | hy
                                · exact HRX.out.small y hy
                                · rw [List.mem_singleton] at hy; subst hy; simp only; omega⟩
                              clear hown3 hg3 hat3 hb3
                              go_roundw
                              case rel => exact ⟨q + 1, l ++ [(kk, xx)], _, cap2, by omega, by go_num, by simp, HRN.out, by rw [HD2.out, show R + a + 8 + 2 * (q + 1) = R + a + 8 + 2 * q + 2 by omega]; exact HRS4.out⟩
                              case measure => simp [intOf]; omega
                  · obtain rfl : q = K := by omega
                    have hrs := HRS.out
                    rw [Nat.sub_self] at hrs
                    unfold rowS at hrs
                    subst hrs
                    have hsp := HSR.out
                    simp only at hsp
                    have HSN := Lib.hid hsp
                    clear hsp HSR hlq hq t0 t1
                    go_wp2_with fail
                    go_roundw
                    case rel => exact ⟨a + (8 + 2 * q), F, l, A', cap', by omega, by omega, by go_num, rfl, HST.out, by rw [← Nat.add_assoc]; exact HSN.out⟩
                    case measure => simp [intOf]; omega
        · obtain rfl : a = Z := by omega
          obtain ⟨F, rfl⟩ : ∃ F', F = F' + 1 := ⟨F - 1, by omega⟩
          have hsp := HSP.out
          unfold blocksS at hsp
          rw [if_pos (Nat.le_refl _)] at hsp
          subst hsp
          go_wp2_with fail
          go_ret2
          exact ⟨⟨A', cap', rfl, HST.out.own.sl relC_len⟩, HST.out.bel⟩
    · have HIN := Lib.hid (fun W : World => in_no S.size r s W (by omega) (by omega) c1)
      have h := HRS.out
      unfold parseS at h
      rw [if_neg c0, if_pos c1] at h
      subst h
      clear c1
      go_enter Try.func18, Try.ntmps18
      go_wp2_with (go_fit (HIN.out _); rintro e u ⟨rfl, rfl⟩)
      go_ret2
      exact ⟨rfl, HB0.out⟩
end Go.Proofs.Ytcommphfjkggkaa
