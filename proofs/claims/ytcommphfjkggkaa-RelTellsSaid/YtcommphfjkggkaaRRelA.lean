/- the document's answer on sites: wide, Apply. -/
import Derived.Test.YtcommphfjkggkaaRelMath3
import Derived.Test.YtcommphfjkggkaaRef1
import Derived.Test.YtcommphfjkggkaaRefPut
import Derived.BigQuiet
namespace Go.Proofs.Ytcommphfjkggkaa
open Go.ChangeShapes Go.WideShapes Go.ChangeAt Go.RowKit
set_option linter.unusedVariables false

theorem wide_any (k : Int) (w : World) : Calls Try.prog 34 #[.int .i64 k] w fun e w' => e = .returned (.int .i64 (relLen k)) ∧ w = w' := by
  by_cases h3 : k = 3
  · subst h3
    go_enter Try.func34, Try.ntmps34
    go_wp2
    go_ret
    exact ⟨rfl, rfl⟩
  · by_cases h10 : k = 10
    · subst h10
      go_enter Try.func34, Try.ntmps34
      go_wp2
      go_ret
      exact ⟨rfl, rfl⟩
    · have e : relLen k = 0 := by unfold relLen; rw [if_neg h3, if_neg h10]
      have e3 : (k == 3) = false := by simpa using h3
      have e10 : (k == 10) = false := by simpa using h10
      rw [e]
      go_enter Try.func34, Try.ntmps34
      go_wp2
      go_ret
      exact ⟨rfl, rfl⟩

theorem rd_strF {g : Nat → Int} (hb : Bytes255 g) {n o N : Nat} (h : o + N ≤ n) : rdF (PlainAid.bt (strF g 0 n)) o N = rdF g o N := rdF_congr _ _ (fun j hj => by rw [bt_strF hb (by omega), Nat.zero_add])

set_option maxRecDepth 100000 in
set_option maxHeartbeats 2000000 in
theorem rapply_any (f : Nat → Int) (n : Nat) (L : Option Addr) (l : List Site) (lc : Nat) (d : Int) (w : World) (hn : n ≤ 1000000) (hb : Bytes255 f)
    (hL : SlT relC 2 w L l) (hll : l.length ≤ 9223372036854775807) (hk : ∀ x ∈ l, -9223372036854775808 ≤ x.2 ∧ x.2 ≤ 9223372036854775807) (d0 : 0 ≤ d) (d1 : d ≤ 18446744073709551615) :
    Calls Try.prog 19 #[.string (strF f 0 n), .slice L l.length lc, .int .u64 d] w fun e w' => e = .returned (.string (strF (applyI n d f l) 0 n)) ∧ Below w.heap.size w w' := by
  have HLS := Lib.hid hL
  have HB := Lib.hid hb
  have HK := Lib.hid hk
  clear hL hb hk
  obtain ⟨S0, hS0⟩ : ∃ S0, strF f 0 n = S0 := ⟨_, rfl⟩
  have HS0 := Lib.hid hS0
  rw [hS0]
  clear hS0
  go_enter Try.func19, Try.ntmps19
  go_wp2_with fail
  go_loopw [0, 7] (fun v0 o wr => ∃ (i : Nat) (S : ByteArray), i ≤ l.length ∧ o = .int .i64 i ∧ v0 = .string S ∧ S = strF (applyI n d f (l.take i)) 0 n ∧ Below w.heap.size w wr) (fun _ o _ => l.length - (intOf o).toNat)
  case atStart => exact ⟨0, S0, by omega, rfl, rfl, by rw [← HS0.out]; rfl, Below.refl _ _⟩
  case round =>
    obtain ⟨i, S, hi, rfl, rfl, hS, hbw⟩ := hrel
    have HBW := Lib.hid hbw
    have HS := Lib.hid hS
    have hsz : S.size = n := by rw [hS]; exact strF_size _ _ _
    clear hbw hS
    by_cases hlt : i < l.length
    · obtain ⟨b, off, rfl, hbl, q0, q1⟩ := (HLS.out.below HBW.out).site hlt
      have HSN := Lib.hid (applyI_snoc n d f l hlt)
      obtain ⟨kx0, kx1⟩ := HK.out l[i] (List.getElem_mem hlt)
      generalize l[i] = x at *
      obtain ⟨k, r⟩ := x
      simp only at q0 q1 kx0 kx1
      have hlb := relLen_bd k
      have H255 := Lib.hid (applyI255 (n := n) (d := d) (l.take i) HB.out)
      have HSN2 := Lib.hid (show applyI n d f (l.take (i + 1)) = addI n d (applyI n d f (l.take i)) (k, r) from HSN.out)
      generalize applyI n d f (l.take i) = g at *
      clear HSN
      have hz : (0 : Int) ≤ (i : Int) := by omega
      have hzl : (i : Int) < (l.length : Int) := by omega
      obtain ⟨N, hN⟩ : ∃ N : Nat, relLen k = N := ⟨(relLen k).toNat, by omega⟩
      have HW := Lib.hid (fun W : World => wide_any k W)
      rw [hN] at HW hlb
      by_cases c : 0 ≤ r ∧ r + N ≤ n
      · obtain ⟨R, rfl⟩ : ∃ R : Nat, r = R := ⟨r.toNat, by omega⟩
        have HN := Lib.hid (fun W : World => rnum_yes S R N W (by omega) (by omega) (by omega))
        have hv : rdF (PlainAid.bt S) R N = rdF g R N := by rw [HS.out]; exact rd_strF H255.out (by omega)
        rw [hv] at HN
        have hvb := rdF_bd g H255.out N R
        by_cases cN : 0 < N
        · have hadd : addI n d g (k, (R : Int)) = putI g R ((rdF g R N + d) % 18446744073709551616) N := by
            unfold addI
            simp only [hN, Int.toNat_natCast]
            rw [if_pos (by omega)]
          have HP := Lib.hid (fun W : World => rput_yes S R N ((rdF g R N + d) % 18446744073709551616) W (by omega) (by omega) (by omega) (by omega) (by omega) (by omega))
          have hput : strF (putI (PlainAid.bt S) R ((rdF g R N + d) % 18446744073709551616) N) 0 S.size = strF (addI n d g (k, (R : Int))) 0 n := by
            rw [hadd, hsz]
            exact strF_congr fun j hj => by
              unfold putI
              split
              · rfl
              · rw [Nat.zero_add, HS.out, bt_strF H255.out hj, Nat.zero_add]
          rw [hput] at HP
          have hwr : IntKind.u64.wrap (rdF g R N + d) = (rdF g R N + d) % 18446744073709551616 := by rw [IntKind.wrap_u64]
          have hb8 : rdF g R N < 18446744073709551616 := by have := pow256_le (show N ≤ 8 by omega); have := hvb.2; omega
          have hb0 := hvb.1
          have cN' : (0 : Int) < (N : Int) := by omega
          obtain ⟨S', hS'⟩ : ∃ S', strF (addI n d g (k, (R : Int))) 0 n = S' := ⟨_, rfl⟩
          rw [hS'] at HP
          have HS' := Lib.hid hS'
          clear hput hadd hS' hv hN
          generalize rdF g R N = v at *
          generalize (v + d) % 18446744073709551616 = v2 at *
          go_wp2_with (first | (go_fit (HW.out _); rintro e u ⟨rfl, rfl⟩) | (go_fit (HN.out _); rintro e u ⟨rfl, rfl⟩) | (go_fit (HP.out _); rintro e u ⟨rfl, hbu⟩))
          go_roundw
          case rel => exact ⟨i + 1, S', by omega, by go_num, rfl, by rw [HSN2.out]; exact HS'.out.symm, HBW.out.trans (hbu.mono HBW.out.size)⟩
          case measure => simp [intOf]; omega
        · obtain rfl : N = 0 := by omega
          have hadd : addI n d g (k, (R : Int)) = g := by unfold addI; rw [if_neg (fun h => h.1 hN)]
          have HADD := Lib.hid hadd
          clear hadd hv hN
          go_wp2_with (first | (go_fit (HW.out _); rintro e u ⟨rfl, rfl⟩) | (go_fit (HN.out _); rintro e u ⟨rfl, rfl⟩))
          go_roundw
          case rel => exact ⟨i + 1, S, by omega, by go_num, rfl, by rw [HSN2.out, HADD.out]; exact HS.out, HBW.out⟩
          case measure => simp [intOf]; omega
      · have HN := Lib.hid (fun W : World => rnum_no S r N W (by omega) (by omega) (by omega))
        have hadd : addI n d g (k, r) = g := by unfold addI; rw [if_neg (fun h => c ⟨h.2.1, by have := h.2.2; simp only [hN] at this; exact this⟩)]
        have HADD := Lib.hid hadd
        clear hadd hN c
        go_wp2_with (first | (go_fit (HW.out _); rintro e u ⟨rfl, rfl⟩) | (go_fit (HN.out _); rintro e u ⟨rfl, rfl⟩))
        go_roundw
        case rel => exact ⟨i + 1, S, by omega, by go_num, rfl, by rw [HSN2.out, HADD.out]; exact HS.out, HBW.out⟩
        case measure => simp [intOf]; omega
    · obtain rfl : i = l.length := by omega
      have hS := HS.out
      rw [List.take_length] at hS
      have HX := Lib.hid HBW.out
      have HSF := Lib.hid hS
      clear hS HS
      go_wp2_with fail
      go_ret
      exact ⟨congrArg (fun z => Ending.returned (.string z)) HSF.out, HX.out⟩
end Go.Proofs.Ytcommphfjkggkaa
