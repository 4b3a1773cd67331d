/- law 18: handles are counted. -/
import Derived.Test.YtclbbekdkljepaaAwake18
import Derived.Test.YtclbbekdkljepaaTlsG
import Derived.Test.YtclbbekdkljepaaMask
namespace Go.Proofs.Ytclbbekdkljepaa
open Go.ChangeShapes Go.WideShapes Go.ChangeAt Go.RowKit
set_option linter.unusedVariables false

theorem and_15 (n : Int) : bits .and .i64 n 15 = n % 16 := i64_mask n 4 (by omega)

def KA : ByteArray := ⟨#[97, 46, 100, 108, 108]⟩
def mdA (n : Int) (p : Nat) : Md := ⟨1, KA, 0, n, -1, false, p⟩

/-- One step: a handle's count turned, and what is then told. -/
theorem handle_a (u : World) (bs B p : Nat) (sv av : Value) (n y N : Int) (h : TabAt u bs B 1 [mdA n p] [] sv av) (n0 : 0 ≤ n) (n1 : n ≤ 1000000) (y0 : -100 ≤ y) (y1 : y ≤ 100) (hN : max (n + y) 0 = N) :
    Calls Try.prog 8 #[.pointer (some ⟨B, 0, none⟩), .int .i64 1, .int .i64 y] u fun e w' => e = .returned (.tuple #[.int .i64 N, .bool true]) ∧ TabAt w' bs B 1 [mdA N p] [] sv av ∧ Below bs u w' := by
  refine (handle_yes u bs B 1 [mdA n p] [] sv av 1 y n 0 (by simp) h (by rfl) rfl n0 (by omega) (by omega) (by omega)).mono ?_
  rintro e w' ⟨rfl, rfl⟩
  rw [hN]
  refine ⟨rfl, h.set 0 (by simp) (mdA N p) rfl 3 (.int .i64 N) (Md.set3 _ N), ?_⟩
  exact (Below.refl _ _).setCell (p := ⟨p, 3, none⟩) (h.ent _ (List.mem_singleton.2 rfl)).1 _

set_option maxRecDepth 100000 in
set_option maxHeartbeats 4000000 in
theorem handles_walk (A : Option Addr) (l : List Int) (cap : Nat) (w : World) (hs : SlT intC 1 w A l) (hl : l.length ≤ 9223372036854775807) :
    Calls Try.prog 3 #[.slice A l.length cap] w fun e w' => e = .returned (.bool true) ∧ Below w.heap.size w w' := by
  have HS := Lib.hid hs
  clear hs
  go_enter Try.func3, Try.ntmps3
  go_wp2_with fail
  go_fit (tabNew w)
  rintro e w1 ⟨rfl, h1, hb1⟩
  have H1 := Lib.hid h1
  have HB1 := Lib.hid hb1
  clear h1 hb1
  go_wp2_with (first
    | (refine wpList_built rfl 46 #[] rfl [] peZ rfl built_peZ ?_)
    | (go_fit (add_new w1 _ _ _ _ _ _ _ ⟨#[97]⟩ _ H1.out (by decide) key_a rfl (by simp) (by omega) (by omega))))
  rintro e w2 ⟨rfl, sv, p, h2, hb2⟩
  have h2' : TabAt w2 w.heap.size w.heap.size 1 [mdA 0 p] [] sv (.slice none 0 0) := h2
  have H2 := Lib.hid h2'
  have HB2 := Lib.hid (HB1.out.trans hb2)
  clear h2 h2' hb2 H1 HB1
  go_wp2_with fail
  go_loopw [6, 7] (fun v6 v7 wr => ∃ (k : Nat) (n : Int), k ≤ l.length ∧ k ≤ 50 ∧ v7 = .int .i64 k ∧ v6 = .int .i64 n ∧ 0 ≤ n ∧ n ≤ 8 * k ∧ TabAt wr w.heap.size w.heap.size 1 [mdA n p] [] sv (.slice none 0 0) ∧ Below w.heap.size w wr) (fun _ v7 _ => l.length - (intOf v7).toNat)
  case atStart => exact ⟨0, 0, by omega, by omega, rfl, rfl, by omega, by omega, H2.out, HB2.out⟩
  case round =>
    obtain ⟨k, n, hk, hk50, rfl, rfl, n0, n1, ht, hb⟩ := hrel
    have HT := Lib.hid ht
    have HB := Lib.hid hb
    have hn400 : n ≤ 400 := by omega
    have HN8 := Lib.hid n1
    clear ht hb H2 HB2 n1
    by_cases hlt : k < l.length
    · by_cases hlt5 : k < 50
      · obtain ⟨b, off, rfl, _, q0⟩ := (HS.out.below HB.out).int hlt
        generalize l[k] = x at *
        have hx := and_15 x
        have hx0 : 0 ≤ x % 16 := Int.emod_nonneg _ (by omega)
        have hx1 : x % 16 ≤ 15 := by omega
        obtain ⟨r, hr⟩ : ∃ r, x % 16 = r := ⟨_, rfl⟩
        rw [hr] at hx hx0 hx1
        have hk' : (k : Int) < (l.length : Int) := by omega
        have hk5 : (k : Int) < 50 := by omega
        clear hr
        have hnn : 0 ≤ max (n + (r - 7)) 0 ∧ max (n + (r - 7)) 0 ≤ n + 8 := by omega
        obtain ⟨N, hN⟩ : ∃ N, max (n + (r - 7)) 0 = N := ⟨_, rfl⟩
        have HH := Lib.hid (handle_a wr _ _ _ _ _ n (r - 7) N HT.out n0 (by omega) (by omega) (by omega) hN)
        have HNB := Lib.hid hnn
        have HN := Lib.hid hN
        clear hnn hN
        go_wp2_with (go_fit HH.out; rintro e w3 ⟨rfl, h3, hb3⟩; have H3 := Lib.hid h3; have HB3 := Lib.hid (HB.out.trans hb3); clear h3 hb3 q0)
        rw [HN.out]
        have HG := Lib.hid (get_yes w3 _ _ _ _ _ _ _ 1 _ H3.out (by rfl))
        have hNB := HNB.out
        rw [HN.out] at hNB
        have hmod : (mdA N p).modC = #[.int .i64 1, .string KA, .int .u64 0, .int .i64 N, .int .i64 (-1), .bool false] := rfl
        rw [hmod] at HG
        clear hmod HT
        generalize KA = KB at HG
        go_wp2_with (go_fit HG.out; rintro e w4 ⟨rfl, hb4⟩; have H4 := Lib.hid (H3.out.below hb4); have HB4 := Lib.hid (HB3.out.trans (hb4.mono HB3.out.size)); clear hb4)
        go_roundw
        case rel => exact ⟨k + 1, N, by omega, by omega, by go_num, rfl, hNB.1, by have := HN8.out; omega, H4.out.below ((Below.refl _ _).alloc (Nat.le_refl _) _), HB4.out.alloc HB4.out.size _⟩
        case measure => simp [intOf]; omega
      · obtain rfl : k = 50 := by omega
        have hlt' : (50 : Int) < (l.length : Int) := by omega
        have HNO := Lib.hid (handle_no wr _ _ _ _ _ _ _ 2 1 HT.out (by rfl))
        go_wp2_with (first
          | (go_fit HNO.out; rintro e w3 ⟨rfl, rfl⟩)
          | (go_fit (awake18_any _); rintro e w4 ⟨rfl, hb4⟩; have HB4 := Lib.hid (HB.out.trans (hb4.mono HB.out.size)); clear hb4))
        go_ret
        exact ⟨rfl, HB4.out⟩
    · obtain rfl : k = l.length := by omega
      have HNO := Lib.hid (handle_no wr _ _ _ _ _ _ _ 2 1 HT.out (by rfl))
      go_wp2_with (first
        | (go_fit HNO.out; rintro e w3 ⟨rfl, rfl⟩)
        | (go_fit (awake18_any _); rintro e w4 ⟨rfl, hb4⟩; have HB4 := Lib.hid (HB.out.trans (hb4.mono HB.out.size)); clear hb4))
      go_ret
      exact ⟨rfl, HB4.out⟩
end Go.Proofs.Ytclbbekdkljepaa
