/- law 8: symbols are told by the places for addresses where there is no row of their own: what is reckoned. · law 8: symbols are told by their own row, or by the places for addresses: the walk. -/
import Derived.Test.YtbjabncefhgefaaMgE
import Derived.Test.YtbjabncefhgefaaMgF
import Derived.Test.YtbjabncefhgefaaImpV
import Derived.Test.YtbjabncefhgefaaLeReads
import Derived.Test.YtbjabncefhgefaaMask
import Derived.BigQuiet
namespace Go.Proofs.Ytbjabncefhgefaa
open Go.ChangeShapes Go.WideShapes Go.ChangeAt Go.RowKit
set_option linter.unusedVariables false
set_option linter.unusedSimpArgs false

def symsT8 (n : Nat) : List SymV := (List.range n).map fun i => ([], 9 * i, true)
theorem symsT8_len (k : Nat) : (symsT8 k).length = k := by simp [symsT8]
theorem symsT8_succ (k : Nat) : symsT8 (k + 1) = symsT8 k ++ [([], 9 * k, true)] := by simp [symsT8, List.range_succ]
theorem symsT8_get (k i : Nat) (h : i < k) : (symsT8 k)[i]? = some ([], 9 * i, true) := by simp [symsT8, h]
def rowT8 (n : Nat) : List PIm := [⟨[97], []⟩, ⟨[98], symsT8 n⟩]
theorem symsT8_mem {n : Nat} (hn : n ≤ 8) {s : SymV} (h : s ∈ symsT8 n) : s.1 = [] ∧ s.2.1 < 65536 ∧ s.2.2 = true := by
  obtain ⟨i, hi, rfl⟩ := List.mem_map.mp h
  have := List.mem_range.mp hi
  exact ⟨rfl, by show 9 * i < _; omega, rfl⟩
theorem rowT8_can (n : Nat) (hn : n ≤ 8) : ∀ x ∈ rowT8 n, PCan x ∧ PAsk x ∧ x.syms.length ≤ 64 := by
  intro x hx
  simp only [rowT8, List.mem_cons, List.mem_nil_iff, or_false] at hx
  rcases hx with rfl | rfl
  · exact ⟨⟨by simp, fun s hs => by simp at hs, by simp, fun s hs => by simp at hs⟩, ⟨by simp, fun v hv => by simp at hv; omega, by show okNm [97] = true; decide +kernel, fun s hs => by simp at hs⟩, by simp⟩
  · have hl : (symsT8 n).length = n := symsT8_len n
    exact ⟨⟨by show (symsT8 n).length ≤ _; omega, fun s hs => by rw [(symsT8_mem hn hs).1]; simp, by simp, fun s hs _ => (symsT8_mem hn hs).2.1⟩, ⟨by simp, fun v hv => by simp at hv; omega, by show okNm [98] = true; decide +kernel, fun s hs => .inl ⟨(symsT8_mem hn hs).2.2, (symsT8_mem hn hs).1, (symsT8_mem hn hs).2.1⟩⟩, by show (symsT8 n).length ≤ _; omega⟩

theorem impsL_one {c : List Nat} {delay : Bool} {D o lo T : Nat} {d : Ds} {x : PIm} (hD : lenD delay = D) (hi : ImAt c lo d x T) (hlo : 0 < lo) (hd : rdD delay c o = d) (ha : PAsk x) (hk : x.syms.length ≤ 64) (ho : o + D ≤ c.length) (n : Nat) (acc : List ImpV) (h16 : acc.length ≠ 16) :
    impsL c D (rdD delay) (n + 1) o acc = impsL c D (rdD delay) n (o + D) (acc ++ [⟨x.dll, d.iat, d.stamp, d.handle, x.syms⟩]) := by
  have hn0 := hi.not0 hlo hd
  rw [hD] at hn0
  have hone := hi.one hlo (by omega) ha
  rw [if_pos hk] at hone
  simp only [impsL]
  rw [hn0, if_neg (by simp), if_pos ⟨ho, h16⟩, hd, hone]

theorem thunks8 (n : Nat) (h1 : 1 ≤ n) (h8 : n ≤ 8) (c : List Nat) (hc : at8 64 (rowT8 n) false = c) : ∃ v0 v1 : ImpV, parseI c 64 20 importD = some [v0, v1] ∧ v1.syms = symsT8 n ∧ v1.iat + 8 ≤ c.length ∧ c.length ≤ 300000 ∧ numL (c.drop v1.iat) 8 = 9223372036854775808 ∧
    ∀ u, 65535 < u → u < 9223372036854775808 → parseI (putL c v1.iat 8 (9223372036854775808 + u)) 64 20 importD = none := by
  have hcan := rowT8_can n h8
  obtain ⟨g1, g2, g3, g4⟩ := at8_spec false 64 (rowT8 n) (by simp [rowT8]) (by omega) (by omega) (fun x hx => (hcan x hx).1)
  rw [hc] at g1 g2 g3 g4
  have hD : lenD false = 20 := rfl
  rw [hD] at g1 g3 g4
  have hrl : (rowT8 n).length = 2 := rfl
  rw [hrl] at g1 g3 g4
  obtain ⟨d0, T0, hd0, hi0, _, lo1, j1, j2, d1, T1, hd1, hi1, hT1, _⟩ := g4
  have hx0 := hcan ⟨[97], []⟩ (by simp [rowT8])
  have hx1 := hcan ⟨[98], symsT8 n⟩ (by simp [rowT8])
  have hT : T1 = d1.iat := hT1 rfl rfl
  have hsl : (symsT8 n).length = n := symsT8_len n
  have hk0 : (⟨[97], []⟩ : PIm).syms.length = 0 := rfl
  have hk1 : (⟨[98], symsT8 n⟩ : PIm).syms.length = n := hsl
  rw [hk0] at j1
  have e0 := impsL_one hD hi0 (by omega) hd0 hx0.2.1 hx0.2.2 (by omega) 17 [] (by simp)
  have e1 := impsL_one hD hi1 (by have := hi0.it; omega) hd1 hx1.2.1 hx1.2.2 (by omega) 16 [⟨[97], d0.iat, d0.stamp, d0.handle, []⟩] (by simp)
  have hi1it := hi1.it
  have hi0it := hi0.it
  have hin := hi1.in2
  rw [hk1] at hin
  refine ⟨⟨[97], d0.iat, d0.stamp, d0.handle, []⟩, ⟨[98], d1.iat, d1.stamp, d1.handle, symsT8 n⟩, ?_, rfl, by show d1.iat + 8 ≤ _; omega, g2, ?_, fun u hu hu2 => ?_⟩
  · have hp : parseI c 64 20 importD = impsL c 20 (rdD false) (17 + 1) 64 [] := if_neg (by omega)
    rw [hp]
    refine e0.trans ?_
    refine e1.trans ?_
    have g3' : noughtsL c 104 20 = true := g3
    have hz : ∀ m o acc, noughtsL c o 20 = true → impsL c 20 (rdD false) (m + 1) o acc = some acc := fun m o acc h => by
      simp only [impsL]
      rw [if_pos h]
    exact hz 15 104 _ g3'
  · have hr := hi1.rows 0 (by rw [hk1]; omega)
    have hs0 : (⟨[98], symsT8 n⟩ : PIm).syms[0]'(by rw [hk1]; omega) = ([], 0, true) := by
      have := symsT8_get n 0 (by omega)
      rw [List.getElem?_eq_getElem (by rw [hsl]; omega)] at this
      exact Option.some.inj this
    rw [hs0, hT] at hr
    exact hr
  · obtain ⟨a, ha⟩ : ∃ a, d1.iat = a := ⟨_, rfl⟩
    have hput : a + 8 ≤ c.length := by omega
    have e8 : (256 : Nat) ^ 8 = 18446744073709551616 := rfl
    show parseI (putL c d1.iat 8 (9223372036854775808 + u)) 64 20 importD = none
    rw [ha]
    have hv := numL_at (c := putL c a 8 (9223372036854775808 + u)) hput (by omega) (Agree.refl _ _ _)
    have hag : ∀ p m, p + m ≤ a → Agree (putL c a 8 (9223372036854775808 + u)) c p m := fun p m h => Agree.put hput (.inl h)
    have hlen := putL_len hput (9223372036854775808 + u)
    obtain ⟨c', hc'⟩ : ∃ q, putL c a 8 (9223372036854775808 + u) = q := ⟨_, rfl⟩
    rw [hc'] at hv hag hlen ⊢
    have r0 : rdD false c' 64 = d0 := by rw [rd_agree false (hag _ _ (by rw [hD]; omega))]; exact hd0
    have r1 : rdD false c' 84 = d1 := by rw [rd_agree false (hag _ _ (by rw [hD]; omega))]; exact hd1
    have n0 : ∀ o d, rdD false c' o = d → d.dll ≠ 0 → noughtsL c' o 20 = false := fun o d h hd => by
      rcases hn : noughtsL c' o 20 with _ | _
      · rfl
      · exfalso
        apply hd
        rw [← h]
        exact noughts_num (j := 12) (m := 4) hn (by omega)
    have n0a := n0 64 d0 r0 (by have := hi0.lod; omega)
    have n0b := n0 84 d1 r1 (by have := hi1.lod; omega)
    have hsy : symsD c' d1 = none := by
      unfold symsD
      rw [← hi1.isT, hT, ha]
      have : ∀ m, symsL c' a a (m + 1) [] = none := fun m => by
        simp only [symsL, List.length_nil, Nat.mul_zero, Nat.add_zero]
        rw [if_pos (by omega), hv, if_neg (by omega), if_pos ⟨by omega, by omega⟩]
        have : symbolL c' (9223372036854775808 + u) = none := by
          unfold symbolL
          rw [if_pos (by omega), if_pos (by omega)]
        rw [this]
      exact this 65
    have hdl1 : d1.delay = false := by rw [← hd1]; rfl
    have hon : oneL c' d1 = none := by
      unfold oneL
      split
      · rfl
      · split
        · rw [if_neg (by rw [hdl1]; simp), hsy]
        · rfl
    have key : ∀ m acc, impsL c' 20 (rdD false) (m + 1) 84 acc = none := fun m acc => by
      simp only [impsL]
      rw [n0b, if_neg (by simp)]
      split
      · rw [r1, hon]
      · rfl
    have hp : parseI c' 64 20 importD = impsL c' 20 (rdD false) (17 + 1) 64 [] := if_neg (by omega)
    rw [hp]
    have k0 : ∀ m acc, impsL c' 20 (rdD false) (m + 1 + 1) 64 acc = none := fun m acc => by
      rw [impsL]
      rw [n0a, if_neg (by simp)]
      split
      · split
        · rfl
        · exact key _ _
      · rfl
    exact k0 16 []
end Go.Proofs.Ytbjabncefhgefaa
namespace Go.Proofs.Ytbjabncefhgefaa
open Go.ChangeShapes Go.WideShapes Go.ChangeAt Go.RowKit
set_option linter.unusedVariables false
set_option linter.unusedSimpArgs false
set_option maxRecDepth 100000

theorem or_top (R : Nat) (h : R < 63) : bits .or .u64 9223372036854775808 ((2 ^ R : Nat) : Int) = ((9223372036854775808 + 2 ^ R : Nat) : Int) := by
  have : ∀ R < 63, bits .or .u64 9223372036854775808 ((2 ^ R : Nat) : Int) = ((9223372036854775808 + 2 ^ R : Nat) : Int) := by decide +kernel
  exact this R h
theorem pow_bd (R : Nat) (h : 16 ≤ R) (h2 : R < 63) : 65535 < 2 ^ R ∧ 2 ^ R < 9223372036854775808 := by
  have h3 : 2 ^ 16 ≤ 2 ^ R := Nat.pow_le_pow_right (by omega) h
  have h4 : 2 ^ R < 2 ^ 63 := Nat.pow_lt_pow_right (by omega) h2
  omega

set_option maxHeartbeats 8000000 in
theorem ithunks_any (n b : Int) (w : World) :
    Calls Try.prog 8 #[.int .i64 n, .int .i64 b] w fun e w' => e = .returned (.bool true) ∧ Below w.heap.size w w' := by
  have HAW := Lib.hid awake8_any
  obtain ⟨d, hd, m0⟩ : ∃ d : Nat, d < 8 ∧ bits .and .i64 n 7 = (d : Int) := ⟨(n % 8).toNat, by omega, by rw [show (7 : Int) = ((2 ^ 3 - 1 : Nat) : Int) from rfl, i64_mask n 3 (by omega)]; omega⟩
  obtain ⟨N, hN⟩ : ∃ N, d + 1 = N := ⟨_, rfl⟩
  have hN1 : (d : Int) + 1 = (N : Int) := by omega
  have hNb : N ≤ 8 := by omega
  have HN0 := Lib.hid (show 1 ≤ N by omega)
  obtain ⟨P, hP, m1⟩ : ∃ P : Nat, P < 256 ∧ bits .and .i64 b 255 = (P : Int) := ⟨(b % 256).toNat, by omega, by rw [and_ff]; omega⟩
  have hpp : Int.tmod (P : Int) 47 = ((P % 47 : Nat) : Int) := rfl
  obtain ⟨R, hR⟩ : ∃ R, P % 47 = R := ⟨_, rfl⟩
  have hR47 : R < 47 := by omega
  rw [hR] at hpp
  obtain ⟨B, hB⟩ : ∃ B, R + 16 = B := ⟨_, rfl⟩
  have hRB : (R : Int) + 16 = (B : Int) := by omega
  have hB63 : B < 63 := by omega
  have wB : IntKind.i64.wrap (B : Int) = (B : Int) := by rw [IntKind.wrap_i64]; omega
  obtain ⟨C, hC⟩ : ∃ C, at8 64 (rowT8 N) false = C := ⟨_, rfl⟩
  obtain ⟨v0, v1, hpar, hsy, hin, hlen, hnum, hbad⟩ := thunks8 N (by omega) hNb C hC
  have hpow := pow_bd B (by omega) hB63
  have hbad1 := hbad (2 ^ B) hpow.1 hpow.2
  have HPAR := Lib.hid hpar
  have HSY := Lib.hid hsy
  have HIN := Lib.hid hin
  have HLEN := Lib.hid hlen
  have HNUM := Lib.hid hnum
  have HBAD := Lib.hid hbad1
  have HPOW := Lib.hid hpow
  have HC := Lib.hid hC
  have HOR := Lib.hid (or_top B hB63)
  clear hpar hsy hin hlen hnum hbad hbad1 hpow hC hd hN hP hR hB hR47
  go_enter Try.func8, Try.ntmps8
  rename World => w0
  obtain ⟨w1, hw1⟩ : ∃ q, w0.alloc (.cells #[.string ⟨#[98]⟩, .slice none 0 0] 66) = q := ⟨_, rfl⟩
  have HE1 := Lib.hid hw1
  obtain ⟨xb, hxb⟩ : ∃ q, w0.heap.size = q := ⟨_, rfl⟩
  have HX1 := Lib.hid (show w1.heap[xb]? = some (.cells #[.string ⟨#[98]⟩, .slice none 0 0] 66 (0, 0)) from by rw [← hw1, ← hxb]; exact heap_alloc_new w0 _)
  have HW1 := Lib.hid (show Below xb w0 w1 from by rw [← hw1, ← hxb]; exact (Below.refl _ _).alloc (Nat.le_refl _) _)
  have HS1 := Lib.hid (show w1.heap.size = xb + 1 from by rw [← hw1, ← hxb]; simp)
  clear hw1
  go_upto_region 3 with (fail)
  refine (congrArg _ HE1.out).mpr ?_
  have HXB := Lib.hid hxb
  clear hxb
  go_wp2_with fail
  go_loopw [6] (fun v6 W => ∃ (s : List SymV) (A' : Option Addr) (c' : Nat), s.length ≤ N ∧ s = symsT8 s.length ∧ v6 = .int .i64 s.length ∧ W.heap[xb]? = some (.cells #[.string ⟨#[98]⟩, .slice A' s.length c'] 66 (0, 0)) ∧ OwnT symC 3 W (xb + 1) 50 (.slice A' s.length c') s ∧ Below xb w0 W ∧ xb + 1 ≤ W.heap.size) (fun v6 _ => N - (intOf v6).toNat)
  case atStart => exact ⟨[], none, 0, Nat.zero_le _, rfl, rfl, HX1.out, OwnT.nil _ _ _, HW1.out, by rw [HS1.out]; omega⟩
  case round =>
    obtain ⟨s, A', c', hs, hss, rfl, hrow, hown, hbel, hsz⟩ := hrel
    have HROW := Lib.hid hrow
    have HO := Lib.hid hown
    have HWW := Lib.hid hbel
    have HSZ := Lib.hid hsz
    have HSS := Lib.hid hss
    clear hrow hown hbel hsz hss HX1 HW1 HS1
    have x1 : wr.cell? ⟨xb, 1, none⟩ = some (.slice A' s.length c') := by rw [cell_of_row _ _ _ _ _ _ HROW.out]; rfl
    by_cases hlt : s.length < N
    · have hsK : (s.length : Int) < (N : Int) := by omega
      obtain ⟨m9, hm9⟩ : ∃ q, 9 * s.length = q := ⟨_, rfl⟩
      have em9 : (9 : Int) * (s.length : Int) = (m9 : Int) := by omega
      have wm9 : IntKind.i64.wrap (m9 : Int) = (m9 : Int) := by rw [IntKind.wrap_i64]; omega
      have HM9 := Lib.hid hm9
      have HNN := Lib.hid hlt
      have HG4 := Lib.hid (show s.length + 1 ≤ maxLen from by unfold maxLen; omega)
      have HG5 := Lib.hid (show (s.length + 1) * 32 ≤ 140737488355328 from by omega)
      have HA := Lib.hid (HO.out.alloc (.cells #[.string ⟨#[]⟩, .int .i64 m9, .bool true] 50))
      have HY := Lib.hid (show ∀ j u, (symC ([], m9, true))[j]? = some u → (wr.alloc (.cells #[.string ⟨#[]⟩, .int .i64 m9, .bool true] 50)).cell? ⟨wr.heap.size, j, none⟩ = some u from by
        have h := symCell1 ([], m9, true) wr
        simp only [txt8_e] at h
        exact h)
      have HG6 := Lib.hid (show xb + 1 ≤ (wr.alloc (.cells #[.string ⟨#[]⟩, .int .i64 m9, .bool true] 50)).heap.size from by have := HSZ.out; simp; omega)
      have HR2 := Lib.hid ((Below.heap_alloc wr (.cells #[.string ⟨#[]⟩, .int .i64 m9, .bool true] 50) xb (lt_of_row' HROW.out)).trans HROW.out)
      have HW2 := Lib.hid (HWW.out.alloc (by have := HSZ.out; omega) (.cells #[.string ⟨#[]⟩, .int .i64 m9, .bool true] 50))
      have HKR := Lib.hid (show ∀ w5, (wr.alloc (.cells #[.string ⟨#[]⟩, .int .i64 m9, .bool true] 50)).grownBy w5 (Value.slice A' s.length c').ownBlock → w5.heap[xb]? = some (.cells #[.string ⟨#[98]⟩, .slice A' s.length c'] 66 (0, 0)) from fun w5 hg => (hg.block xb (lt_of_row' HR2.out) (fun e => by have := (HA.out.lt xb e.symm).1; omega)).trans HR2.out)
      have HKB := Lib.hid (show ∀ w5, (wr.alloc (.cells #[.string ⟨#[]⟩, .int .i64 m9, .bool true] 50)).grownBy w5 (Value.slice A' s.length c').ownBlock → Below xb w0 w5 from fun w5 hg => HA.out.grew HW2.out (by omega) (by have := HG6.out; omega) hg)
      have HKC := Lib.hid (show ∀ w5 : World, w5.heap[xb]? = some (.cells #[.string ⟨#[98]⟩, .slice A' s.length c'] 66 (0, 0)) → w5.cell? ⟨xb, 1, none⟩ = some (.slice A' s.length c') ∧ w5.frozen? ⟨xb, 1, none⟩ = false from fun w5 h => ⟨by rw [cell_of_row _ _ _ _ _ _ h]; rfl, frozen_of_row _ _ _ _ _ h⟩)
      clear hlt hs hm9
      go_wp2_with (first
        | (at_builtin; refine wpList_appT rfl (.tmp 27) (.tmp 31) 64 rfl (xb + 1) 50 _ 32 rfl infoSym rfl (by omega) symC_len symC_one _ s rfl HA.out wr.heap.size 1 rfl ([], m9, true) HY.out HG4.out HG5.out HG6.out ?_; intro g5 c5 w5 hown5 hg5 hat5
           have HN5 := Lib.hid hown5
           have HR5 := Lib.hid (HKR.out w5 hg5)
           have HB5 := Lib.hid (HKB.out w5 hg5)
           obtain ⟨hx5, hf5⟩ := HKC.out w5 HR5.out
           clear hown5 hg5 hat5)
        | fail)
      go_roundw
      case rel =>
        refine ⟨s ++ [([], m9, true)], some ⟨g5, 0, none⟩, c5, by have := HNN.out; simp; omega, by rw [List.length_append, List.length_singleton, symsT8_succ, ← HSS.out, HM9.out], by simp, ?_, ?_, HB5.out.setCell (p := ⟨xb, 1, none⟩) (Nat.le_refl _) _, by rw [World.size_setCell]; have := lt_of_row' HR5.out; omega⟩
        · rw [List.length_append, List.length_singleton]
          exact heap_setCell_same w5 xb 1 _ _ _ HR5.out
        · have h : OwnT symC 3 w5 (xb + 1) 50 (.slice (some ⟨g5, 0, none⟩) (s ++ [([], m9, true)]).length c5) (s ++ [([], m9, true)]) := by simpa using HN5.out
          exact h.of_block fun k hk => heap_setCell_other w5 _ k _ (fun e => by have := (h.lt k hk).1; simp at e; omega)
      case measure =>
        have := HNN.out
        simp [intOf]
        omega
    · have hlK : s.length = N := by omega
      have hss := HSS.out
      rw [hlK] at hss
      have hsl := HO.out.sl symC_len
      rw [hss] at hsl
      have HSL := Lib.hid hsl
      rw [hlK] at HROW x1 ⊢
      have hki : ¬ (N : Int) < (N : Int) := by omega
      have HWT := Lib.hid (show Below w0.heap.size w0 wr from by rw [HXB.out]; exact HWW.out)
      clear hlt hs hss hsl HSS HO HWW
      rename World => w3
      have x0 : w3.cell? ⟨xb, 0, none⟩ = some (.string ⟨#[98]⟩) := by rw [cell_of_row _ _ _ _ _ _ HROW.out]; rfl
      have hTl : (symsT8 N).length = N := symsT8_len N
      rcases HSL.out with h0 | ⟨ab, ao, rfl, hab, hca⟩
      · have := HN0.out
        rw [h0] at hTl
        simp at hTl
        omega
      have HAB := Lib.hid hab
      have HCA := Lib.hid (show ∀ i, i < N → w3.cell? ⟨ab, ao + i * 3, none⟩ = some (.string ⟨#[]⟩) ∧ w3.cell? ⟨ab, ao + i * 3 + 1, none⟩ = some (.int .i64 ((9 * i : Nat) : Int)) ∧ w3.cell? ⟨ab, ao + i * 3 + 2, none⟩ = some (.bool true) from fun i hi => by
        have hg := symsT8_get N i hi
        obtain ⟨hil, hie⟩ := List.getElem?_eq_some_iff.mp hg
        have h0 := hca i hil 0 (.string ⟨#[]⟩) (by rw [hie]; simp [symC, txt8_e])
        have h1 := hca i hil 1 (.int .i64 ((9 * i : Nat) : Int)) (by rw [hie]; rfl)
        have h2 := hca i hil 2 (.bool true) (by rw [hie]; rfl)
        exact ⟨h0, by rw [Nat.add_assoc]; exact h1, by rw [Nat.add_assoc]; exact h2⟩)
      have HM := Lib.hid (show Calls Try.prog 20 #[.slice (some ⟨w3.heap.size, 0, none⟩) 2 2, .bool false] (w3.alloc (.cells #[.string ⟨#[97]⟩, .slice none 0 0, .string ⟨#[98]⟩, .slice (some ⟨ab, ao, none⟩) N c'] 66)) fun e w' => ∃ g c, e = .returned (.slice (some ⟨g, 0, none⟩) C.length c) ∧ (∃ base, OwnD w' base g c C) ∧ Below w3.heap.size w3 w' from by
        have hP := slT_new pimC_len w3 [⟨⟨[97], []⟩, none, 0⟩, ⟨⟨[98], symsT8 N⟩, some ⟨ab, ao, none⟩, c'⟩] #[.string ⟨#[97]⟩, .slice none 0 0, .string ⟨#[98]⟩, .slice (some ⟨ab, ao, none⟩) N c'] 66 (by simp [pimC, txt_aa, txt_bb, hTl])
        refine (made8_any w3.heap.size 0 2 false [⟨⟨[97], []⟩, none, 0⟩, ⟨⟨[98], symsT8 N⟩, some ⟨ab, ao, none⟩, c'⟩] _ (by simp) hP (fun y hy => by
          simp only [List.mem_cons, List.mem_nil_iff, or_false] at hy
          rcases hy with rfl | rfl
          · exact .inl rfl
          · exact HSL.out.below ((Below.refl _ _).alloc (Nat.le_refl _) _)) (fun y hy => by
          simp only [List.mem_cons, List.mem_nil_iff, or_false] at hy
          rcases hy with rfl | rfl
          · exact ⟨⟨fun v hv => by simp at hv; omega, by simp⟩, fun s hs => by simp at hs, by simp⟩
          · exact ⟨⟨fun v hv => by simp at hv; omega, by simp⟩, fun s hs => by rw [(symsT8_mem hNb hs).1]; exact ⟨fun v hv => by simp at hv, by simp⟩, by show (symsT8 N).length ≤ _; omega⟩) C HC.out).mono ?_
        rintro e w' ⟨g, c, rfl, ho, hw⟩
        exact ⟨g, c, rfl, ⟨_, ho⟩, ((Below.refl _ _).alloc (Nat.le_refl _) _).trans (hw.mono (by simp))⟩)
      clear hca hab hTl HC
      go_wp2_with fail
      refine HM.out.mono ?_
      rintro e w5 ⟨g, cc, rfl, ⟨base, ho⟩, hw5⟩
      have HO5 := Lib.hid ho
      have H35 := Lib.hid hw5
      have HPA := Lib.hid (show Calls Try.prog 21 #[.slice (some ⟨g, 0, none⟩) C.length cc, .agg #[.int .i64 64, .int .i64 0]] w5 fun e w' => ImpQ w5 w' (parseI C 64 20 importD) e ∧ Below w5.heap.size w5 w' from imParse_any (some ⟨g, 0, none⟩) cc C 64 0 w5 HO5.out.len HO5.out.most (by have := HLEN.out; omega) HO5.out.lb HO5.out.slB (by omega))
      rw [HPAR.out] at HPA
      clear ho hw5 HM HPAR x0 x1
      go_wp2_with fail
      refine HPA.out.mono ?_
      rintro e w6 ⟨⟨A6, c6, l, rfl, ⟨ho1, hs1⟩, hl1⟩, hw6⟩
      have H36 := Lib.hid (H35.out.trans (hw6.mono H35.out.size))
      have HO6 := Lib.hid (HO5.out.below hw6)
      obtain ⟨y0, y1, rfl⟩ : ∃ y0 y1, l = [y0, y1] := by
        rcases l with _ | ⟨y0, _ | ⟨y1, _ | ⟨z, r⟩⟩⟩
        · cases hl1
        · simp at hl1
        · exact ⟨y0, y1, rfl⟩
        · simp at hl1
      have hyv : y1.v = v1 := by
        simp at hl1
        exact hl1.2
      obtain ⟨A', cap', hv, _, _, hl | ⟨g6, hA, _, hg6⟩⟩ := ho1.form
      · simp at hl
      injection hv with hv _ _
      subst hv hA
      have hc6 := ho1.cell impC_len 1 (by simp) 1 (.int .i64 v1.iat) (by simp [impC, hyv])
      have hc9 := ho1.cell impC_len 1 (by simp) 4 (.slice y1.A N y1.c) (by simp [impC, hyv, HSY.out, symsT8_len])
      have hsy := hs1 y1 (by simp)
      rw [hyv, HSY.out] at hsy
      rcases hsy with h0 | ⟨yb, yo, hyA, hyb, hcy⟩
      · have := HN0.out
        have h1 := symsT8_len N
        rw [h0] at h1
        simp at h1
        omega
      rw [hyA] at hc9
      have HCY := Lib.hid (show ∀ i, i < N → w6.cell? ⟨yb, yo + i * 3, none⟩ = some (.string ⟨#[]⟩) ∧ w6.cell? ⟨yb, yo + i * 3 + 1, none⟩ = some (.int .i64 ((9 * i : Nat) : Int)) ∧ w6.cell? ⟨yb, yo + i * 3 + 2, none⟩ = some (.bool true) from fun i hi => by
        have hg := symsT8_get N i hi
        obtain ⟨hil, hie⟩ := List.getElem?_eq_some_iff.mp hg
        have h0 := hcy i hil 0 (.string ⟨#[]⟩) (by rw [hie]; simp [symC, txt8_e])
        have h1 := hcy i hil 1 (.int .i64 ((9 * i : Nat) : Int)) (by rw [hie]; rfl)
        have h2 := hcy i hil 2 (.bool true) (by rw [hie]; rfl)
        exact ⟨h0, by rw [Nat.add_assoc]; exact h1, by rw [Nat.add_assoc]; exact h2⟩)
      have HYB := Lib.hid hyb
      have HG6 := Lib.hid hg6
      have HX6 := Lib.hid ((H36.out.block xb (lt_of_row' HROW.out)).trans HROW.out)
      have HCA6 := Lib.hid (show ∀ i, i < N → w6.cell? ⟨ab, ao + i * 3, none⟩ = some (.string ⟨#[]⟩) ∧ w6.cell? ⟨ab, ao + i * 3 + 1, none⟩ = some (.int .i64 ((9 * i : Nat) : Int)) ∧ w6.cell? ⟨ab, ao + i * 3 + 2, none⟩ = some (.bool true) from fun i hi => by
        obtain ⟨h0, h1, h2⟩ := HCA.out i hi
        exact ⟨(H36.out.cell (p := ⟨ab, _, none⟩) HAB.out).trans h0, (H36.out.cell (p := ⟨ab, _, none⟩) HAB.out).trans h1, (H36.out.cell (p := ⟨ab, _, none⟩) HAB.out).trans h2⟩)
      have HAB6 := Lib.hid (Nat.lt_of_lt_of_le HAB.out H36.out.size)
      have HWT6 := Lib.hid (HWT.out.trans (H36.out.mono HWT.out.size))
      simp only [Nat.one_mul] at hc6 hc9
      have HC6 := Lib.hid hc6
      have HC9 := Lib.hid hc9
      clear hw6 ho1 hs1 hl1 hyv hyA hyb hcy hg6 HPA hc6 hc9 HCA HAB H35 H36 HROW HO5 HWT HSL
      have k9 : w6.cell? ⟨g6, 9, none⟩ = some (.slice (some ⟨yb, yo, none⟩) N y1.c) := HC9.out
      go_wp2_with fail
      go_loopw [10] (fun v10 W => ∃ i : Nat, i ≤ N ∧ v10 = .int .i64 i ∧ Below w6.heap.size w6 W) (fun v10 _ => N - (intOf v10).toNat)
      case atStart => exact ⟨0, Nat.zero_le _, rfl, Below.refl _ _⟩
      case round =>
        obtain ⟨i, hi, rfl, hbel⟩ := hrel
        have HBW := Lib.hid hbel
        clear hbel k9
        by_cases hlt : i < N
        · have hiN : (i : Int) < (N : Int) := by omega
          have HLT := Lib.hid hlt
          obtain ⟨a0, a1, a2⟩ := HCA6.out i hlt
          obtain ⟨b0, b1, b2⟩ := HCY.out i hlt
          have q9 := (HBW.out.cell (p := ⟨g6, 9, none⟩) HG6.out).trans HC9.out
          have qx : wr.cell? ⟨xb, 1, none⟩ = some (.slice (some ⟨ab, ao, none⟩) N c') := by rw [cell_of_row _ _ _ _ _ _ ((HBW.out.block xb (lt_of_row' HX6.out)).trans HX6.out)]; rfl
          have qa0 := (HBW.out.cell (p := ⟨ab, ao + i * 3, none⟩) HAB6.out).trans a0
          have qa1 := (HBW.out.cell (p := ⟨ab, ao + i * 3 + 1, none⟩) HAB6.out).trans a1
          have qa2 := (HBW.out.cell (p := ⟨ab, ao + i * 3 + 2, none⟩) HAB6.out).trans a2
          have qb0 := (HBW.out.cell (p := ⟨yb, yo + i * 3, none⟩) HYB.out).trans b0
          have qb1 := (HBW.out.cell (p := ⟨yb, yo + i * 3 + 1, none⟩) HYB.out).trans b1
          have qb2 := (HBW.out.cell (p := ⟨yb, yo + i * 3 + 2, none⟩) HYB.out).trans b2
          clear a0 a1 a2 b0 b1 b2
          generalize (9 * i : Nat) = m9 at *
          go_upto_region 14 with (fail)
          go_quiet (fail)
          go_wp2_with fail
          go_roundw
          case rel => exact ⟨i + 1, by have := HLT.out; omega, by simp, HBW.out.trans ⟨rfl, rfl, rfl, Nat.le_refl _, fun _ _ => rfl⟩⟩
          case measure =>
            have := HLT.out
            simp [intOf]
            omega
        · have hiN : i = N := by omega
          subst hiN
          have hii : ¬ (i : Int) < (i : Int) := by omega
          have HWT7 := Lib.hid (HWT6.out.trans (HBW.out.mono HWT6.out.size))
          have HSTR := Lib.hid (show ∀ W, Below w6.heap.size w6 W → (convert 24 9 (.slice (some ⟨g, 0, none⟩) C.length cc)).run Try.prog W = .ok (.string (txt C)) W from fun W hW => run_str (cap := cc) (HO6.out.below hW).row)
          have HIAT := Lib.hid (show ∀ W, Below w6.heap.size w6 W → W.cell? ⟨g6, 6, none⟩ = some (.int .i64 v1.iat) from fun W hW => (hW.cell (p := ⟨g6, 6, none⟩) HG6.out).trans HC6.out)
          have HK9 := Lib.hid (show ∀ W, Below w6.heap.size w6 W → W.cell? ⟨g6, 9, none⟩ = some (.slice (some ⟨yb, yo, none⟩) i y1.c) from fun W hW => (hW.cell (p := ⟨g6, 9, none⟩) HG6.out).trans HC9.out)
          have hlb := HO6.out.lb
          have HNU := Lib.hid (fun W => show Calls Try.prog 24 #[.string (txt C), .int .i64 v1.iat, .int .i64 8] W fun e w' => e = .returned (.tuple #[.int .u64 9223372036854775808, .bool true]) ∧ W = w' from by
            have h := rnum_yes (txt C) v1.iat 8 W (by rw [txt_size]; have := HLEN.out; omega) (by omega) (by rw [txt_size]; exact HIN.out)
            have e1 : rdF (PlainAid.bt (txt C)) v1.iat 8 = ((numL (C.drop v1.iat) 8 : Nat) : Int) := by
              rw [← rdF_numL]
              exact rdF_congr 8 v1.iat fun j hj => bt_txt hlb (by have := HIN.out; omega)
            rw [e1, HNUM.out] at h
            exact h)
          have hin := HIN.out
          have hlen := HLEN.out
          have HPU := Lib.hid (fun W => put_list C v1.iat 8 (9223372036854775808 + 2 ^ B) W hlb (by omega) (by omega) (by omega) hin (by have := HPOW.out; omega))
          have hplen := putL_len hin (9223372036854775808 + 2 ^ B)
          have hplb := putL_lb hlb v1.iat 8 (9223372036854775808 + 2 ^ B)
          obtain ⟨C2, hC2⟩ : ∃ q, putL C v1.iat 8 (9223372036854775808 + 2 ^ B) = q := ⟨_, rfl⟩
          rw [hC2] at HPU hplen hplb HBAD
          have HCV := Lib.hid (fun W => conv_text W C2 hplb (by omega))
          rw [hplen] at HCV
          have HLEN2 := Lib.hid hplen
          have HLB2 := Lib.hid hplb
          have HOR' := HOR.out
          obtain ⟨t, ht⟩ : ∃ t : Nat, 2 ^ B = t := ⟨_, rfl⟩
          rw [ht] at HOR' HPU HPOW
          obtain ⟨u, hu⟩ : ∃ u : Nat, 9223372036854775808 + t = u := ⟨_, rfl⟩
          rw [hu] at HOR' HPU
          have hsh : IntKind.u64.wrap ((2 : Int) ^ B) = (t : Int) := by
            have e : ((2 : Int) ^ B) = ((2 ^ B : Nat) : Int) := by simp
            rw [e, ht]
            exact u64_nat (by have := HPOW.out; omega)
          have HSH := Lib.hid hsh
          have HORX := Lib.hid HOR'
          clear hlb hin hlen hplen hplb hC2 ht hu hsh HOR' HOR hlt hi HCA6 HCY HAB6 HYB HC6 HC9 HX6 HO6 HNUM HIN
          go_upto_region 16 with (fail)
          have HS := Lib.hid (show Below w6.heap.size w6 wr.drew from HBW.out.drew)
          refine wp_region_noPanic ?_
          refine wp_region_K (fun W => Below w6.heap.size w6 W) (fun _ => True) 99 (by kernel_rfl) ?_
          refine wpAnyK_take (i := 0) (oi := ?_) (v := ?_) ?_ (by kernel_rfl) (by kernel_rfl) (by kernel_rfl) (fun _ _ _ h => h) (by decide) ?_ HS.out (fun _ => trivial) ?_
          rotate_left 2
          · (simp only [List.getElem?_toArray, List.getElem?_cons_succ, List.getElem?_cons_zero]; rfl)
          · (first | exact Or.inr ⟨by rfl, rfl⟩ | (refine Or.inl ⟨by rfl, ?_⟩; intro W hSw; clear hSw; go_simp; try with_reducible rfl))
          try simp only [Act.put, List.setIfInBounds_toArray, List.set_cons_zero, List.set_cons_succ]
          refine wpAnyK_take (i := 1) (oi := ?_) (v := ?_) ?_ (by kernel_rfl) (by kernel_rfl) (by kernel_rfl) (fun _ _ _ h => h) (by decide) ?_ HS.out (fun _ => trivial) ?_
          rotate_left 2
          · (simp only [List.getElem?_toArray, List.getElem?_cons_succ, List.getElem?_cons_zero]; rfl)
          · (first | exact Or.inr ⟨by rfl, rfl⟩ | (refine Or.inl ⟨by rfl, ?_⟩; intro W hSw; have hq := HSTR.out W hSw; clear hSw; go_simp; try with_reducible rfl))
          try simp only [Act.put, List.setIfInBounds_toArray, List.set_cons_zero, List.set_cons_succ]
          refine wpAnyK_take (i := 2) (oi := ?_) (v := ?_) ?_ (by kernel_rfl) (by kernel_rfl) (by kernel_rfl) (fun _ _ _ h => h) (by decide) ?_ HS.out (fun _ => trivial) ?_
          rotate_left 2
          · (simp only [List.getElem?_toArray, List.getElem?_cons_succ, List.getElem?_cons_zero]; rfl)
          · (first | exact Or.inr ⟨by rfl, rfl⟩ | (refine Or.inl ⟨by rfl, ?_⟩; intro W hSw; clear hSw; go_simp; try with_reducible rfl))
          try simp only [Act.put, List.setIfInBounds_toArray, List.set_cons_zero, List.set_cons_succ]
          refine wpAnyK_take (i := 3) (oi := ?_) (v := ?_) ?_ (by kernel_rfl) (by kernel_rfl) (by kernel_rfl) (fun _ _ _ h => h) (by decide) ?_ HS.out (fun _ => trivial) ?_
          rotate_left 2
          · (simp only [List.getElem?_toArray, List.getElem?_cons_succ, List.getElem?_cons_zero]; rfl)
          · (first | exact Or.inr ⟨by rfl, rfl⟩ | (refine Or.inl ⟨by rfl, ?_⟩; intro W hSw; clear hSw; go_simp; try with_reducible rfl))
          try simp only [Act.put, List.setIfInBounds_toArray, List.set_cons_zero, List.set_cons_succ]
          refine wpAnyK_take (i := 4) (oi := ?_) (v := ?_) ?_ (by kernel_rfl) (by kernel_rfl) (by kernel_rfl) (fun _ _ _ h => h) (by decide) ?_ HS.out (fun _ => trivial) ?_
          rotate_left 2
          · (simp only [List.getElem?_toArray, List.getElem?_cons_succ, List.getElem?_cons_zero]; rfl)
          · (first | exact Or.inr ⟨by rfl, rfl⟩ | (refine Or.inl ⟨by rfl, ?_⟩; intro W hSw; clear hSw; go_simp; try with_reducible rfl))
          try simp only [Act.put, List.setIfInBounds_toArray, List.set_cons_zero, List.set_cons_succ]
          refine wpAnyK_take (i := 5) (oi := ?_) (v := ?_) ?_ (by kernel_rfl) (by kernel_rfl) (by kernel_rfl) (fun _ _ _ h => h) (by decide) ?_ HS.out (fun _ => trivial) ?_
          rotate_left 2
          · (simp only [List.getElem?_toArray, List.getElem?_cons_succ, List.getElem?_cons_zero]; rfl)
          · (first | exact Or.inr ⟨by rfl, rfl⟩ | (refine Or.inl ⟨by rfl, ?_⟩; intro W hSw; have hq := HIAT.out W hSw; clear hSw; go_simp; try with_reducible rfl))
          try simp only [Act.put, List.setIfInBounds_toArray, List.set_cons_zero, List.set_cons_succ]
          refine wpAnyK_takeQ (i := 6) (oi := ?_) (v := .tuple #[.int .u64 9223372036854775808, .bool true]) ?_ (by kernel_rfl) (by kernel_rfl) (by kernel_rfl) (fun _ _ _ h => h) (by decide) ?_ HS.out (fun _ => trivial) ?_
          rotate_left 1
          · (simp only [List.getElem?_toArray, List.getElem?_cons_succ, List.getElem?_cons_zero]; rfl)
          · refine ⟨by rfl, fun W hW => ⟨24, #[.string (txt C), .int .i64 v1.iat, .int .i64 8], ?_, HNU.out W⟩⟩
            first | kernel_rfl | (go_simp; done) | rfl
          try simp only [Act.put, List.setIfInBounds_toArray, List.set_cons_zero, List.set_cons_succ]
          refine wpAnyK_take (i := 7) (oi := ?_) (v := ?_) ?_ (by kernel_rfl) (by kernel_rfl) (by kernel_rfl) (fun _ _ _ h => h) (by decide) ?_ HS.out (fun _ => trivial) ?_
          rotate_left 2
          · (simp only [List.getElem?_toArray, List.getElem?_cons_succ, List.getElem?_cons_zero]; rfl)
          · (first | exact Or.inr ⟨by rfl, rfl⟩ | (refine Or.inl ⟨by rfl, ?_⟩; intro W hSw; clear hSw; go_simp; try with_reducible rfl))
          try simp only [Act.put, List.setIfInBounds_toArray, List.set_cons_zero, List.set_cons_succ]
          refine wpAnyK_take (i := 8) (oi := ?_) (v := ?_) ?_ (by kernel_rfl) (by kernel_rfl) (by kernel_rfl) (fun _ _ _ h => h) (by decide) ?_ HS.out (fun _ => trivial) ?_
          rotate_left 2
          · (simp only [List.getElem?_toArray, List.getElem?_cons_succ, List.getElem?_cons_zero]; rfl)
          · (first | exact Or.inr ⟨by rfl, rfl⟩ | (refine Or.inl ⟨by rfl, ?_⟩; intro W hSw; clear hSw; go_simp; try with_reducible rfl))
          try simp only [Act.put, List.setIfInBounds_toArray, List.set_cons_zero, List.set_cons_succ]
          refine wpAnyK_take (i := 9) (oi := ?_) (v := ?_) ?_ (by kernel_rfl) (by kernel_rfl) (by kernel_rfl) (fun _ _ _ h => h) (by decide) ?_ HS.out (fun _ => trivial) ?_
          rotate_left 2
          · (simp only [List.getElem?_toArray, List.getElem?_cons_succ, List.getElem?_cons_zero]; rfl)
          · (first | exact Or.inr ⟨by rfl, rfl⟩ | (refine Or.inl ⟨by rfl, ?_⟩; intro W hSw; clear hSw; go_simp; try with_reducible rfl))
          try simp only [Act.put, List.setIfInBounds_toArray, List.set_cons_zero, List.set_cons_succ]
          refine wpAnyK_take (i := 10) (oi := ?_) (v := ?_) ?_ (by kernel_rfl) (by kernel_rfl) (by kernel_rfl) (fun _ _ _ h => h) (by decide) ?_ HS.out (fun _ => trivial) ?_
          rotate_left 2
          · (simp only [List.getElem?_toArray, List.getElem?_cons_succ, List.getElem?_cons_zero]; rfl)
          · (first | exact Or.inr ⟨by rfl, rfl⟩ | (refine Or.inl ⟨by rfl, ?_⟩; intro W hSw; clear hSw; go_simp; try with_reducible rfl))
          try simp only [Act.put, List.setIfInBounds_toArray, List.set_cons_zero, List.set_cons_succ]
          refine wpAnyK_take (i := 11) (oi := ?_) (v := ?_) ?_ (by kernel_rfl) (by kernel_rfl) (by kernel_rfl) (fun _ _ _ h => h) (by decide) ?_ HS.out (fun _ => trivial) ?_
          rotate_left 2
          · (simp only [List.getElem?_toArray, List.getElem?_cons_succ, List.getElem?_cons_zero]; rfl)
          · (first | exact Or.inr ⟨by rfl, rfl⟩ | (refine Or.inl ⟨by rfl, ?_⟩; intro W hSw; clear hSw; go_simp; try with_reducible rfl))
          try simp only [Act.put, List.setIfInBounds_toArray, List.set_cons_zero, List.set_cons_succ]
          refine wpAnyK_done (by kernel_rfl) ?_ _
          refine NoPanic.normal ?_
          go_upto_region 17 with (fail)
          clear HS
          have HBD := Lib.hid HBW.out.drew
          -- MARK0
          have HS := Lib.hid (show Below w6.heap.size w6 wr.drew.drew from HBD.out.drew)
          refine wp_region_noPanic ?_
          refine wp_region_K (fun W => Below w6.heap.size w6 W) (fun _ => True) 99 (by kernel_rfl) ?_
          refine wpAnyK_take (i := 0) (oi := ?_) (v := ?_) ?_ (by kernel_rfl) (by kernel_rfl) (by kernel_rfl) (fun _ _ _ h => h) (by decide) ?_ HS.out (fun _ => trivial) ?_
          rotate_left 2
          · (simp only [List.getElem?_toArray, List.getElem?_cons_succ, List.getElem?_cons_zero]; rfl)
          · (first | exact Or.inr ⟨by rfl, rfl⟩ | (refine Or.inl ⟨by rfl, ?_⟩; intro W hSw; clear hSw; go_simp; try with_reducible rfl))
          try simp only [Act.put, List.setIfInBounds_toArray, List.set_cons_zero, List.set_cons_succ]
          refine wpAnyK_take (i := 1) (oi := ?_) (v := ?_) ?_ (by kernel_rfl) (by kernel_rfl) (by kernel_rfl) (fun _ _ _ h => h) (by decide) ?_ HS.out (fun _ => trivial) ?_
          rotate_left 2
          · (simp only [List.getElem?_toArray, List.getElem?_cons_succ, List.getElem?_cons_zero]; rfl)
          · (first | exact Or.inr ⟨by rfl, rfl⟩ | (refine Or.inl ⟨by rfl, ?_⟩; intro W hSw; have hq := HSTR.out W hSw; clear hSw; go_simp; try with_reducible rfl))
          try simp only [Act.put, List.setIfInBounds_toArray, List.set_cons_zero, List.set_cons_succ]
          refine wpAnyK_take (i := 2) (oi := ?_) (v := ?_) ?_ (by kernel_rfl) (by kernel_rfl) (by kernel_rfl) (fun _ _ _ h => h) (by decide) ?_ HS.out (fun _ => trivial) ?_
          rotate_left 2
          · (simp only [List.getElem?_toArray, List.getElem?_cons_succ, List.getElem?_cons_zero]; rfl)
          · (first | exact Or.inr ⟨by rfl, rfl⟩ | (refine Or.inl ⟨by rfl, ?_⟩; intro W hSw; clear hSw; go_simp; try with_reducible rfl))
          try simp only [Act.put, List.setIfInBounds_toArray, List.set_cons_zero, List.set_cons_succ]
          refine wpAnyK_take (i := 3) (oi := ?_) (v := ?_) ?_ (by kernel_rfl) (by kernel_rfl) (by kernel_rfl) (fun _ _ _ h => h) (by decide) ?_ HS.out (fun _ => trivial) ?_
          rotate_left 2
          · (simp only [List.getElem?_toArray, List.getElem?_cons_succ, List.getElem?_cons_zero]; rfl)
          · (first | exact Or.inr ⟨by rfl, rfl⟩ | (refine Or.inl ⟨by rfl, ?_⟩; intro W hSw; clear hSw; go_simp; try with_reducible rfl))
          try simp only [Act.put, List.setIfInBounds_toArray, List.set_cons_zero, List.set_cons_succ]
          refine wpAnyK_take (i := 4) (oi := ?_) (v := ?_) ?_ (by kernel_rfl) (by kernel_rfl) (by kernel_rfl) (fun _ _ _ h => h) (by decide) ?_ HS.out (fun _ => trivial) ?_
          rotate_left 2
          · (simp only [List.getElem?_toArray, List.getElem?_cons_succ, List.getElem?_cons_zero]; rfl)
          · (first | exact Or.inr ⟨by rfl, rfl⟩ | (refine Or.inl ⟨by rfl, ?_⟩; intro W hSw; clear hSw; go_simp; try with_reducible rfl))
          try simp only [Act.put, List.setIfInBounds_toArray, List.set_cons_zero, List.set_cons_succ]
          refine wpAnyK_take (i := 5) (oi := ?_) (v := ?_) ?_ (by kernel_rfl) (by kernel_rfl) (by kernel_rfl) (fun _ _ _ h => h) (by decide) ?_ HS.out (fun _ => trivial) ?_
          rotate_left 2
          · (simp only [List.getElem?_toArray, List.getElem?_cons_succ, List.getElem?_cons_zero]; rfl)
          · (first | exact Or.inr ⟨by rfl, rfl⟩ | (refine Or.inl ⟨by rfl, ?_⟩; intro W hSw; have hq := HIAT.out W hSw; clear hSw; go_simp; try with_reducible rfl))
          try simp only [Act.put, List.setIfInBounds_toArray, List.set_cons_zero, List.set_cons_succ]
          refine wpAnyK_take (i := 6) (oi := ?_) (v := ?_) ?_ (by kernel_rfl) (by kernel_rfl) (by kernel_rfl) (fun _ _ _ h => h) (by decide) ?_ HS.out (fun _ => trivial) ?_
          rotate_left 2
          · (simp only [List.getElem?_toArray, List.getElem?_cons_succ, List.getElem?_cons_zero]; rfl)
          · (first | exact Or.inr ⟨by rfl, rfl⟩ | (refine Or.inl ⟨by rfl, ?_⟩; intro W hSw; clear hSw; go_simp; try with_reducible rfl))
          try simp only [Act.put, List.setIfInBounds_toArray, List.set_cons_zero, List.set_cons_succ]
          refine wpAnyK_take (i := 7) (oi := ?_) (v := ?_) ?_ (by kernel_rfl) (by kernel_rfl) (by kernel_rfl) (fun _ _ _ h => h) (by decide) ?_ HS.out (fun _ => trivial) ?_
          rotate_left 2
          · (simp only [List.getElem?_toArray, List.getElem?_cons_succ, List.getElem?_cons_zero]; rfl)
          · (first | exact Or.inr ⟨by rfl, rfl⟩ | (refine Or.inl ⟨by rfl, ?_⟩; intro W hSw; clear hSw; go_simp; try with_reducible rfl))
          try simp only [Act.put, List.setIfInBounds_toArray, List.set_cons_zero, List.set_cons_succ]
          refine wpAnyK_take (i := 8) (oi := ?_) (v := ?_) ?_ (by kernel_rfl) (by kernel_rfl) (by kernel_rfl) (fun _ _ _ h => h) (by decide) ?_ HS.out (fun _ => trivial) ?_
          rotate_left 2
          · (simp only [List.getElem?_toArray, List.getElem?_cons_succ, List.getElem?_cons_zero]; rfl)
          · (first | exact Or.inr ⟨by rfl, rfl⟩ | (refine Or.inl ⟨by rfl, ?_⟩; intro W hSw; clear hSw; go_simp; try with_reducible rfl))
          try simp only [Act.put, List.setIfInBounds_toArray, List.set_cons_zero, List.set_cons_succ]
          refine wpAnyK_take (i := 9) (oi := ?_) (v := ?_) ?_ (by kernel_rfl) (by kernel_rfl) (by kernel_rfl) (fun _ _ _ h => h) (by decide) ?_ HS.out (fun _ => trivial) ?_
          rotate_left 2
          · (simp only [List.getElem?_toArray, List.getElem?_cons_succ, List.getElem?_cons_zero]; rfl)
          · (first | exact Or.inr ⟨by rfl, rfl⟩ | (refine Or.inl ⟨by rfl, ?_⟩; intro W hSw; clear hSw; go_simp; try with_reducible rfl))
          try simp only [Act.put, List.setIfInBounds_toArray, List.set_cons_zero, List.set_cons_succ]
          refine wpAnyK_take (i := 10) (oi := ?_) (v := ?_) ?_ (by kernel_rfl) (by kernel_rfl) (by kernel_rfl) (fun _ _ _ h => h) (by decide) ?_ HS.out (fun _ => trivial) ?_
          rotate_left 2
          · (simp only [List.getElem?_toArray, List.getElem?_cons_succ, List.getElem?_cons_zero]; rfl)
          · (first | exact Or.inr ⟨by rfl, rfl⟩ | (refine Or.inl ⟨by rfl, ?_⟩; intro W hSw; clear hSw; go_simp; try with_reducible rfl))
          try simp only [Act.put, List.setIfInBounds_toArray, List.set_cons_zero, List.set_cons_succ]
          -- MARKA
          refine wpAnyK_take (i := 11) (oi := ?_) (v := ?_) ?_ (by kernel_rfl) (by kernel_rfl) (by kernel_rfl) (fun _ _ _ h => h) (by decide) ?_ HS.out (fun _ => trivial) ?_
          rotate_left 2
          · (simp only [List.getElem?_toArray, List.getElem?_cons_succ, List.getElem?_cons_zero]; rfl)
          · (first | exact Or.inr ⟨by rfl, rfl⟩ | (refine Or.inl ⟨by rfl, ?_⟩; intro W hSw; have hq := HSH.out; clear hSw; go_simp; try with_reducible rfl))
          try simp only [Act.put, List.setIfInBounds_toArray, List.set_cons_zero, List.set_cons_succ]
          -- MARKB
          refine wpAnyK_take (i := 12) (oi := ?_) (v := ?_) ?_ (by kernel_rfl) (by kernel_rfl) (by kernel_rfl) (fun _ _ _ h => h) (by decide) ?_ HS.out (fun _ => trivial) ?_
          rotate_left 2
          · (simp only [List.getElem?_toArray, List.getElem?_cons_succ, List.getElem?_cons_zero]; rfl)
          · (first | exact Or.inr ⟨by rfl, rfl⟩ | (refine Or.inl ⟨by rfl, ?_⟩; intro W hSw; have hq := HORX.out; clear hSw; go_simp; try with_reducible rfl))
          try simp only [Act.put, List.setIfInBounds_toArray, List.set_cons_zero, List.set_cons_succ]
          -- MARKC
          refine wpAnyK_one (i := 13) (o := ?_) (by kernel_rfl) ?_ (fun K hK => ?_)
          rotate_left 1
          · (simp only [List.getElem?_toArray, List.getElem?_cons_succ, List.getElem?_cons_zero]; rfl)
          go_simp
          go_at_call 15
          refine (HPU.out _).mono ?_
          rintro e w7 ⟨rfl, hw7⟩
          have HS7 := Lib.hid (HS.out.trans (hw7.mono HS.out.size))
          clear hw7
          refine hK.out _ _ HS7.out (fun _ => trivial) ?_
          clear hK K
          try simp only [Act.put, List.setIfInBounds_toArray, List.set_cons_zero, List.set_cons_succ]
          refine wpAnyK_take (i := 14) (oi := ?_) (v := ?_) ?_ (by kernel_rfl) (by kernel_rfl) (by kernel_rfl) (fun _ _ _ h => h) (by decide) ?_ HS7.out (fun _ => trivial) ?_
          rotate_left 2
          · (simp only [List.getElem?_toArray, List.getElem?_cons_succ, List.getElem?_cons_zero]; rfl)
          · (first | exact Or.inr ⟨by rfl, rfl⟩ | (refine Or.inl ⟨by rfl, ?_⟩; intro W hSw; clear hSw; go_simp; try with_reducible rfl))
          try simp only [Act.put, List.setIfInBounds_toArray, List.set_cons_zero, List.set_cons_succ]
          refine wpAnyK_take (i := 15) (oi := ?_) (v := ?_) ?_ (by kernel_rfl) (by kernel_rfl) (by kernel_rfl) (fun _ _ _ h => h) (by decide) ?_ HS7.out (fun _ => trivial) ?_
          rotate_left 2
          · (simp only [List.getElem?_toArray, List.getElem?_cons_succ, List.getElem?_cons_zero]; rfl)
          · (first | exact Or.inr ⟨by rfl, rfl⟩ | (refine Or.inl ⟨by rfl, ?_⟩; intro W hSw; clear hSw; go_simp; try with_reducible rfl))
          try simp only [Act.put, List.setIfInBounds_toArray, List.set_cons_zero, List.set_cons_succ]
          refine wpAnyK_take (i := 16) (oi := ?_) (v := ?_) ?_ (by kernel_rfl) (by kernel_rfl) (by kernel_rfl) (fun _ _ _ h => h) (by decide) ?_ HS7.out (fun _ => trivial) ?_
          rotate_left 2
          · (simp only [List.getElem?_toArray, List.getElem?_cons_succ, List.getElem?_cons_zero]; rfl)
          · (first | exact Or.inr ⟨by rfl, rfl⟩ | (refine Or.inl ⟨by rfl, ?_⟩; intro W hSw; clear hSw; go_simp; try with_reducible rfl))
          try simp only [Act.put, List.setIfInBounds_toArray, List.set_cons_zero, List.set_cons_succ]
          refine wpAnyK_take (i := 17) (oi := ?_) (v := ?_) ?_ (by kernel_rfl) (by kernel_rfl) (by kernel_rfl) (fun _ _ _ h => h) (by decide) ?_ HS7.out (fun _ => trivial) ?_
          rotate_left 2
          · (simp only [List.getElem?_toArray, List.getElem?_cons_succ, List.getElem?_cons_zero]; rfl)
          · (first | exact Or.inr ⟨by rfl, rfl⟩ | (refine Or.inl ⟨by rfl, ?_⟩; intro W hSw; clear hSw; go_simp; try with_reducible rfl))
          try simp only [Act.put, List.setIfInBounds_toArray, List.set_cons_zero, List.set_cons_succ]
          refine wpAnyK_take (i := 18) (oi := ?_) (v := ?_) ?_ (by kernel_rfl) (by kernel_rfl) (by kernel_rfl) (fun _ _ _ h => h) (by decide) ?_ HS7.out (fun _ => trivial) ?_
          rotate_left 2
          · (simp only [List.getElem?_toArray, List.getElem?_cons_succ, List.getElem?_cons_zero]; rfl)
          · (first | exact Or.inr ⟨by rfl, rfl⟩ | (refine Or.inl ⟨by rfl, ?_⟩; intro W hSw; clear hSw; go_simp; try with_reducible rfl))
          try simp only [Act.put, List.setIfInBounds_toArray, List.set_cons_zero, List.set_cons_succ]
          refine wpAnyK_done (by kernel_rfl) ?_ _
          refine NoPanic.normal ?_
          have HB7 := Lib.hid HS7.out
          clear HS7
          -- MARKD
          go_upto_region 18 with (fail)
          obtain ⟨C9, w10, hcv, ho9, hw10⟩ := HCV.out w7
          have HB10 := Lib.hid (HB7.out.trans (hw10.mono HB7.out.size))
          have HPB := Lib.hid (show Calls Try.prog 21 #[.slice (some ⟨w7.heap.size, 0, none⟩) C.length C9, .agg #[.int .i64 64, .int .i64 0]] w10 fun e w' => ImpQ w10 w' (parseI C2 64 20 importD) e ∧ Below w10.heap.size w10 w' from by
            have h := imParse_any (some ⟨w7.heap.size, 0, none⟩) C9 C2 64 0 w10 ho9.len ho9.most (by have := HLEN2.out; have := HLEN.out; omega) HLB2.out ho9.slB (by omega)
            rw [HLEN2.out] at h
            exact h)
          rw [HBAD.out] at HPB
          clear ho9 hw10 HCV HPU HBAD
          -- MARKE
          go_wp2_with fail
          clear hcv
          refine HPB.out.mono ?_
          rintro e w11 ⟨hq, hw11⟩
          have hq' : e = .returned (.tuple #[.slice none 0 0, .int .i64 10]) := hq
          subst hq'
          have HB11 := Lib.hid (HB10.out.trans (hw11.mono HB10.out.size))
          clear hq hw11 HPB
          go_wp2_with fail
          refine (HAW.out _).mono ?_
          rintro e w12 ⟨rfl, hw12⟩
          have HBZ := Lib.hid (HWT6.out.trans ((HB11.out.trans (hw12.mono HB11.out.size)).mono HWT6.out.size))
          clear hw12
          go_wp2_with fail
          go_ret
          exact ⟨rfl, HBZ.out⟩
end Go.Proofs.Ytbjabncefhgefaa
