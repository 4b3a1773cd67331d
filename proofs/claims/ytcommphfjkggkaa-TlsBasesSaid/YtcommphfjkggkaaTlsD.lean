/- law 11: At, Made. -/
import Derived.Test.YtcommphfjkggkaaTlsC
import Derived.Test.YtcommphfjkggkaaRefPut
import Derived.Test.YtcommphfjkggkaaCopy
namespace Go.Proofs.Ytcommphfjkggkaa
open Go.ChangeShapes Go.WideShapes Go.ChangeAt Go.RowKit
set_option linter.unusedVariables false

/-- The bytes of S, and behind them g. -/
def tailF (S : ByteArray) (g : Nat → Int) (i : Nat) : Int := if i < S.size then PlainAid.bt S i else g (i - S.size)
theorem tailF255 (S : ByteArray) {g : Nat → Int} (hg : Bytes255 g) : Bytes255 (tailF S g) := fun i => by
  unfold tailF
  split
  · exact bt255 S i
  · exact hg _
theorem app_tail (S : ByteArray) (g : Nat → Int) (m : Nat) : S ++ strF g 0 m = strF (tailF S g) 0 (S.size + m) := by
  rw [← strF_cat (tailF S g) 0 S.size m]
  congr 1
  · rw [← strF_bt S]
    rw [strF_bt S]
    refine (strF_bt S).symm.trans (strF_congr fun i hi => ?_)
    unfold tailF
    rw [Nat.zero_add, if_pos hi]
  · refine strF_congr fun i hi => ?_
    unfold tailF
    rw [if_neg (by omega)]
    congr 1
    omega
theorem rd_tail (S : ByteArray) {g : Nat → Int} (hg : Bytes255 g) {m o N : Nat} (h : o + N ≤ S.size) : rdF (PlainAid.bt (S ++ strF g 0 m)) o N = rdF (PlainAid.bt S) o N := by
  rw [app_tail]
  refine rdF_congr _ _ (fun j hj => ?_)
  rw [bt_strF (tailF255 S hg) (by omega), Nat.zero_add]
  unfold tailF
  rw [if_pos (by omega)]
theorem rd_tail_at (S : ByteArray) {g : Nat → Int} (hg : Bytes255 g) {m : Nat} : rdF (PlainAid.bt (S ++ strF g 0 m)) S.size m = rdF g 0 m := by
  rw [app_tail]
  have h : ∀ (k o : Nat), o + k ≤ m → rdF (PlainAid.bt (strF (tailF S g) 0 (S.size + m))) (S.size + o) k = rdF g o k := by
    intro k
    induction k with
    | zero => intro o _; rfl
    | succ k ih =>
      intro o ho
      simp only [rdF]
      rw [bt_strF (tailF255 S hg) (by omega), Nat.zero_add, show S.size + o + 1 = S.size + (o + 1) from by omega, ih (o + 1) (by omega)]
      unfold tailF
      rw [if_neg (by omega), show S.size + o - S.size = o from by omega]
  simpa using h m 0 (by omega)
theorem size_tail (S : ByteArray) (g : Nat → Int) (m : Nat) : (S ++ strF g 0 m).size = S.size + m := by rw [app_tail, strF_size]

theorem byteOf255t (v : Int) : Bytes255 (byteOf v) := fun i => by
  have h1 := Int.emod_nonneg (v / 2 ^ (8 * i)) (show (256 : Int) ≠ 0 by omega)
  have h2 := Int.emod_lt_of_pos (v / 2 ^ (8 * i)) (show (0 : Int) < 256 by omega)
  unfold byteOf
  omega
theorem rd_byteOf (v : Int) (h0 : 0 ≤ v) (h1 : v < 18446744073709551616) : rdF (byteOf v) 0 8 = v := by
  have h := rdF_put (fun _ => 0) v 8 8 0 0 (by omega)
  have e8 : (256 : Int) ^ 8 = 18446744073709551616 := by decide
  have e1 : (2 : Int) ^ (8 * 0) = 1 := rfl
  rw [Nat.add_zero, e1, Int.ediv_one, e8] at h
  have k : rdF (byteOf v) 0 8 = rdF (putI (fun _ => 0) 0 v 8) 0 8 := rdF_congr _ _ (fun j hj => by
    unfold putI
    rw [if_pos (by omega)]
    congr 1)
  rw [k, h]
  omega

/-- A text under way: i calls are there. -/
structure TlsS (S : ByteArray) (b x : Int) (cs : List Int) (i : Nat) : Prop where
  size : S.size = 64 + 8 * i
  idx : rdF (PlainAid.bt S) 32 8 = b + x
  tab : rdF (PlainAid.bt S) 40 8 = b + 64
  call : ∀ j (h : j < cs.length), j < i → rdF (PlainAid.bt S) (64 + 8 * j) 8 = b + cs[j]

theorem TlsS.add {S : ByteArray} {b x : Int} {cs : List Int} {i : Nat} (h : TlsS S b x cs i) (hi : i < cs.length) (v : Int) (hv : v = b + cs[i]) (v0 : 0 ≤ v) (v1 : v < 18446744073709551616) : TlsS (S ++ strF (byteOf v) 0 8) b x cs (i + 1) := by
  have hs := h.size
  refine ⟨by rw [size_tail, hs]; omega, by rw [rd_tail S (byteOf255t v) (by omega)]; exact h.idx, by rw [rd_tail S (byteOf255t v) (by omega)]; exact h.tab, fun j hj hji => ?_⟩
  by_cases e : j = i
  · subst e
    have k := rd_tail_at S (byteOf255t v) (m := 8)
    rw [hs, rd_byteOf v v0 v1] at k
    rw [k, hv]
  · rw [rd_tail S (byteOf255t v) (by omega)]
    exact h.call j hj (by omega)

theorem TlsS.all {S : ByteArray} {b x : Int} {cs : List Int} (h : TlsS S b x cs cs.length) (hm : cs.length ≤ 8) (hb0 : 0 < b) (hb1 : b ≤ 1000000000000000) (hx0 : 0 ≤ x) (hx1 : x ≤ 64) (hc : ∀ v ∈ cs, 0 ≤ v ∧ v ≤ 64) :
    TlsI (S ++ strF (fun _ => 0) 0 8).size (PlainAid.bt (S ++ strF (fun _ => 0) 0 8)) b x cs := by
  have hs := h.size
  have hz : Bytes255 (fun _ => 0) := fun i => by simp
  refine ⟨by rw [size_tail, hs]; omega, hm, hb0, hb1, hx0, hx1, by rw [rd_tail S hz (by omega)]; exact h.idx, by rw [rd_tail S hz (by omega)]; exact h.tab, fun j hj => ⟨by rw [rd_tail S hz (by omega)]; exact h.call j hj hj, hc _ (List.getElem_mem hj)⟩, ?_⟩
  have k := rd_tail_at S hz (m := 8)
  rw [hs] at k
  rw [k]
  decide

theorem TlsS.start (b x : Int) (cs : List Int) (hb0 : 0 < b) (hb1 : b ≤ 1000000000000000) (hx0 : 0 ≤ x) (hx1 : x ≤ 64) (S0 S1 : ByteArray) (h0 : S0.size = 64) (h1 : S1 = strF (putI (PlainAid.bt S0) 32 (b + x) 8) 0 S0.size) :
    TlsS (strF (putI (PlainAid.bt S1) 40 (b + 64) 8) 0 S1.size) b x cs 0 := by
  have e8 : (256 : Int) ^ 8 = 18446744073709551616 := by decide
  have e1 : (2 : Int) ^ (8 * 0) = 1 := rfl
  have s1 : S1.size = 64 := by rw [h1, strF_size, h0]
  have p1 : Bytes255 (putI (PlainAid.bt S0) 32 (b + x) 8) := putI255 (bt255 S0) _ _ _
  have p2 : Bytes255 (putI (PlainAid.bt S1) 40 (b + 64) 8) := putI255 (bt255 S1) _ _ _
  refine ⟨by rw [strF_size, s1], ?_, ?_, fun j hj h => by omega⟩
  · have k : rdF (PlainAid.bt (strF (putI (PlainAid.bt S1) 40 (b + 64) 8) 0 S1.size)) 32 8 = rdF (putI (PlainAid.bt S0) 32 (b + x) 8) 32 8 := rdF_congr _ _ (fun j hj => by
      rw [bt_strF p2 (by omega), Nat.zero_add]
      unfold putI
      rw [if_neg (by omega), h1, bt_strF p1 (by rw [h0]; omega), Nat.zero_add]
      unfold putI
      rfl)
    rw [k]
    have q := rdF_put (PlainAid.bt S0) (b + x) 8 8 32 0 (by omega)
    rw [Nat.add_zero, e1, Int.ediv_one, e8] at q
    rw [q]
    omega
  · have k : rdF (PlainAid.bt (strF (putI (PlainAid.bt S1) 40 (b + 64) 8) 0 S1.size)) 40 8 = rdF (putI (PlainAid.bt S1) 40 (b + 64) 8) 40 8 := rdF_congr _ _ (fun j hj => by rw [bt_strF p2 (by omega), Nat.zero_add])
    rw [k]
    have q := rdF_put (PlainAid.bt S1) (b + 64) 8 8 40 0 (by omega)
    rw [Nat.add_zero, e1, Int.ediv_one, e8] at q
    rw [q]
    omega
end Go.Proofs.Ytcommphfjkggkaa
