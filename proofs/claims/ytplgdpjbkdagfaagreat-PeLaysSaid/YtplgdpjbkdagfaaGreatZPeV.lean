import Derived.Test.YtplgdpjbkdagfaaGreatZPeD
import Derived.Test.YtplgdpjbkdagfaaGreatPeU
import Derived.Test.YtplgdpjbkdagfaaGreatImpF
import Derived.Test.YtplgdpjbkdagfaaGreatZExpD
import Derived.Test.YtplgdpjbkdagfaaGreatZNought
import Derived.Test.YtplgdpjbkdagfaaGreatRelParse
import Derived.Test.YtplgdpjbkdagfaaGreatZMd
import Derived.Test.YtplgdpjbkdagfaaGreatZHdrD
import Derived.Test.YtplgdpjbkdagfaaGreatZAwake1
import Derived.Deep.RegionHeld3
namespace Go.Proofs.YtplgdpjbkdagfaaGreat
open Go.ChangeShapes Go.WideShapes Go.ChangeAt Go.RowKit
set_option linter.unusedVariables false
set_option linter.unusedSimpArgs false
set_option maxRecDepth 100000
theorem inFarR (A : Option Addr) (n cap k : Nat) (r : Int) (hr : 262144 < r) (hr2 : r ≤ 4294967296) (hn : n ≤ 262144) (hk : k ≤ 100) (W : World) : Calls Tryz.prog 113 #[.slice A n cap, .int .i64 r, .int .i64 k] W fun e w' => e = .returned (.bool false) ∧ W = w' :=
  rowIn_any A n cap r k false W (by omega) (by omega) (by omega) ⟨(fun h => by cases h), (fun h => by omega)⟩
theorem noughtsFarR (A : Option Addr) (n cap k : Nat) (r : Int) (hr : 262144 < r) (hr2 : r ≤ 4294967296) (hn : n ≤ 262144) (hk : k ≤ 100) (w : World) : Calls Tryz.prog 118 #[.slice A n cap, .int .i64 r, .int .i64 k] w fun e w' => e = .returned (.bool false) ∧ w = w' := by
  have HIN := Lib.hid (fun W => inFarR A n cap k r hr hr2 hn hk W)
  go_enter Tryz.func118, Tryz.ntmps118
  go_wp2_with (first | (refine (HIN.out _).mono ?_; rintro e w' ⟨rfl, rfl⟩) | fail)
  go_ret
  exact ⟨rfl, rfl⟩
set_option maxHeartbeats 2000000 in
theorem bndFR (A : Option Addr) (n cap : Nat) (r : Int) (hr : 262144 < r) (hr2 : r ≤ 4294967296) (hn : n ≤ 262144) (sz : Int) (w : World) : Calls Tryz.prog 83 #[.slice A n cap, .agg #[.int .i64 r, .int .i64 sz]] w fun e u => e = .returned (.tuple #[.slice none 0 0, .int .i64 8]) ∧ Below w.heap.size w u := by
  have hb1 : Below w.heap.size w ((w.alloc (.cells #[.int .i64 r, .int .i64 sz] 37)).alloc (.cells #[] 80)) := ((Below.refl w.heap.size w).alloc (Nat.le_refl _) _).alloc (by simp) _
  have HB1 := Lib.hid hb1
  have HIN := Lib.hid (fun W => inFarR A n cap 8 r hr hr2 hn (by omega) W)
  have HNO := Lib.hid (fun W => noughtsFarR A n cap 8 r hr hr2 hn (by omega) W)
  clear hb1
  have h0 : (r == 0) = false := by rw [beq_eq_false_iff_ne]; omega
  go_enter Tryz.func83, Tryz.ntmps83
  go_wp2_with fail
  generalize (w.alloc (.cells #[.int .i64 r, .int .i64 sz] 37)).alloc (.cells #[] 80) = w1 at *
  go_loopw [7, 8] (fun v7 v8 wr => v8 = .int .i64 r ∧ v7 = .int .i64 0 ∧ Below w.heap.size w wr) (fun _ v8 _ => 0)
  case atStart => exact ⟨rfl, rfl, HB1.out⟩
  case round =>
    obtain ⟨rfl, rfl, hb⟩ := hrel
    have HB := Lib.hid hb
    clear hb
    go_wp2_with (first | (refine (HIN.out _).mono ?_; rintro e w' ⟨rfl, rfl⟩) | (refine (HNO.out _).mono ?_; rintro e w' ⟨rfl, rfl⟩) | fail)
    go_ret2
    exact ⟨rfl, HB.out⟩
set_option maxHeartbeats 2000000 in
theorem impR (A : Option Addr) (n cap : Nat) (r : Int) (hr : 262144 < r) (hr2 : r ≤ 4294967296) (hn : n ≤ 262144) (sz : Int) (w : World) : Calls Tryz.prog 111 #[.slice A n cap, .agg #[.int .i64 r, .int .i64 sz], .int .i64 20, .func (.func 112) #[] #[]] w fun e u => e = .returned (.tuple #[.slice none 0 0, .int .i64 10]) ∧ Below w.heap.size w u := by
  have hb1 : Below w.heap.size w ((w.alloc (.cells #[.int .i64 r, .int .i64 sz] 37)).alloc (.cells #[] 78)) := ((Below.refl w.heap.size w).alloc (Nat.le_refl _) _).alloc (by simp) _
  have HB1 := Lib.hid hb1
  have HIN := Lib.hid (fun W => inFarR A n cap 20 r hr hr2 hn (by omega) W)
  have HNO := Lib.hid (fun W => noughtsFarR A n cap 20 r hr hr2 hn (by omega) W)
  clear hb1
  have h0 : (r == 0) = false := by rw [beq_eq_false_iff_ne]; omega
  go_enter Tryz.func111, Tryz.ntmps111
  go_wp2_with fail
  generalize (w.alloc (.cells #[.int .i64 r, .int .i64 sz] 37)).alloc (.cells #[] 78) = w1 at *
  go_loopw [11] (fun v11 wr => v11 = .int .i64 r ∧ Below w.heap.size w wr) (fun _ _ => 0)
  case atStart => exact ⟨rfl, HB1.out⟩
  case round =>
    obtain ⟨rfl, hb⟩ := hrel
    have HB := Lib.hid hb
    clear hb
    go_wp2_with (first | (refine (HIN.out _).mono ?_; rintro e w' ⟨rfl, rfl⟩) | (refine (HNO.out _).mono ?_; rintro e w' ⟨rfl, rfl⟩) | fail)
    go_ret2
    exact ⟨rfl, HB.out⟩
theorem imFR (A : Option Addr) (n cap : Nat) (r : Int) (hr : 262144 < r) (hr2 : r ≤ 4294967296) (hn : n ≤ 262144) (sz : Int) (w : World) : Calls Tryz.prog 80 #[.slice A n cap, .agg #[.int .i64 r, .int .i64 sz]] w fun e u => e = .returned (.tuple #[.slice none 0 0, .int .i64 10]) ∧ Below w.heap.size w u := by
  have HB0 := Lib.hid ((Below.refl w.heap.size w).alloc (Nat.le_refl _) (.cells #[.int .i64 r, .int .i64 sz] 37))
  have HP := Lib.hid (fun W => impR A n cap r hr hr2 hn sz W)
  have h0 : (r == 0) = false := by rw [beq_eq_false_iff_ne]; omega
  go_enter Tryz.func80, Tryz.ntmps80
  go_wp2_with fail
  refine (HP.out _).mono ?_
  rintro e w2 ⟨rfl, hb⟩
  have HB2 := Lib.hid (HB0.out.trans (hb.mono HB0.out.size))
  clear hb
  go_wp2_with fail
  go_ret2
  exact ⟨rfl, HB2.out⟩
set_option maxHeartbeats 2000000 in
theorem depR (A : Option Addr) (n cap : Nat) (r : Int) (hr : 262144 < r) (hr2 : r ≤ 4294967296) (hn : n ≤ 262144) (sz : Int) (w : World) : Calls Tryz.prog 111 #[.slice A n cap, .agg #[.int .i64 r, .int .i64 sz], .int .i64 32, .func (.func 120) #[] #[]] w fun e u => e = .returned (.tuple #[.slice none 0 0, .int .i64 10]) ∧ Below w.heap.size w u := by
  have hb1 : Below w.heap.size w ((w.alloc (.cells #[.int .i64 r, .int .i64 sz] 37)).alloc (.cells #[] 78)) := ((Below.refl w.heap.size w).alloc (Nat.le_refl _) _).alloc (by simp) _
  have HB1 := Lib.hid hb1
  have HIN := Lib.hid (fun W => inFarR A n cap 32 r hr hr2 hn (by omega) W)
  have HNO := Lib.hid (fun W => noughtsFarR A n cap 32 r hr hr2 hn (by omega) W)
  clear hb1
  have h0 : (r == 0) = false := by rw [beq_eq_false_iff_ne]; omega
  go_enter Tryz.func111, Tryz.ntmps111
  go_wp2_with fail
  generalize (w.alloc (.cells #[.int .i64 r, .int .i64 sz] 37)).alloc (.cells #[] 78) = w1 at *
  go_loopw [11] (fun v11 wr => v11 = .int .i64 r ∧ Below w.heap.size w wr) (fun _ _ => 0)
  case atStart => exact ⟨rfl, HB1.out⟩
  case round =>
    obtain ⟨rfl, hb⟩ := hrel
    have HB := Lib.hid hb
    clear hb
    go_wp2_with (first | (refine (HIN.out _).mono ?_; rintro e w' ⟨rfl, rfl⟩) | (refine (HNO.out _).mono ?_; rintro e w' ⟨rfl, rfl⟩) | fail)
    go_ret2
    exact ⟨rfl, HB.out⟩
theorem deFR (A : Option Addr) (n cap : Nat) (r : Int) (hr : 262144 < r) (hr2 : r ≤ 4294967296) (hn : n ≤ 262144) (sz : Int) (w : World) : Calls Tryz.prog 84 #[.slice A n cap, .agg #[.int .i64 r, .int .i64 sz]] w fun e u => e = .returned (.tuple #[.slice none 0 0, .int .i64 10]) ∧ Below w.heap.size w u := by
  have HB0 := Lib.hid ((Below.refl w.heap.size w).alloc (Nat.le_refl _) (.cells #[.int .i64 r, .int .i64 sz] 37))
  have HP := Lib.hid (fun W => depR A n cap r hr hr2 hn sz W)
  have h0 : (r == 0) = false := by rw [beq_eq_false_iff_ne]; omega
  go_enter Tryz.func84, Tryz.ntmps84
  go_wp2_with fail
  refine (HP.out _).mono ?_
  rintro e w2 ⟨rfl, hb⟩
  have HB2 := Lib.hid (HB0.out.trans (hb.mono HB0.out.size))
  clear hb
  go_wp2_with fail
  go_ret2
  exact ⟨rfl, HB2.out⟩
def bsOf (N : Nat) (f : Nat → Int) : List Nat := (List.range N).map fun i => (f i).toNat
theorem bsOf_len (N : Nat) (f : Nat → Int) : (bsOf N f).length = N := by simp [bsOf]
theorem bsOf_lF {N : Nat} {f : Nat → Int} (hf : Bytes255 f) {i : Nat} (hi : i < N) : lF (bsOf N f) i = f i := by
  have := (hf i).1
  unfold lF bsOf
  simp [List.getD, hi]
  omega
theorem bsOf_lb {N : Nat} {f : Nat → Int} (hf : Bytes255 f) : Lb (bsOf N f) := fun v hv => by
  simp only [bsOf, List.mem_map, List.mem_range] at hv
  obtain ⟨i, _, rfl⟩ := hv
  have := (hf i).2
  omega
theorem bsOf_sl {w : World} {b off N cap : Nat} {f : Nat → Int} (h : RowB w b off N cap f) : SlB w (some ⟨b, off, none⟩) (bsOf N f).length (lF (bsOf N f)) :=
  .inr ⟨b, off, rfl, h.lt, fun i hi => by rw [bsOf_len] at hi; rw [bsOf_lF h.by255 hi]; exact h.row i hi⟩
def erO {α : Type} (R : Option α) (e : Int) : Int := match R with
  | none => e
  | some _ => 0
theorem own_lasts {α : Type} {C : α → List Value} {sz : Nat} {U : World} {B : Nat} {e : TypeId} {v : Value} {l : List α} (h : OwnT C sz U B e v l) : Lasts B (fun W => OwnT C sz W B e v l) U :=
  fun W2 hk hs => h.of_block fun k hk2 => hk k (h.lt k hk2).1 (h.lt k hk2).2
def ExpS (base : Nat) (R : Option ExpV) (_ : Nat) (a b c : Value) (U : World) : Prop := match R with
  | none => a = .int .i64 0 ∧ b = .slice none 0 0 ∧ c = .slice none 0 0
  | some x => ∃ A k A' k', a = .int .i64 x.1 ∧ b = .slice A x.2.1.length k ∧ c = .slice A' x.2.2.length k' ∧ OwnT gC 2 U base 74 (.slice A x.2.1.length k) x.2.1 ∧ OwnT nC 2 U base 76 (.slice A' x.2.2.length k') x.2.2
theorem readE_gen (w : World) (N : Nat) (IM : Nat → Int) (hN : N ≤ 262144) (rva sz : Int) (r0 : 0 ≤ rva) (r1 : rva < 4294967296) (s0 : 0 ≤ sz) (s1 : sz < 4294967296) :
    ReadE3 w N IM 79 [.agg #[.int .i64 rva, .int .i64 sz]] (erO (parseE (bsOf N IM) rva sz) 11) (ExpS w.heap.size (parseE (bsOf N IM) rva sz)) := fun W gi P ho hb hp hn W2 hk hs => by
  have hr := (ho.of_block hs (hk.block gi ⟨ho.lt, hn⟩)).rowB
  have hlen := bsOf_len N IM
  have hle : w.heap.size ≤ W2.heap.size := Nat.le_trans hb.size hs
  have h := parseE_any (some ⟨gi, 0, none⟩) N (bsOf N IM) rva sz W2 (bsOf_lb hr.by255) (by rw [hlen]; exact Nat.le_refl _) (by omega) (by rw [hlen]; omega) (bsOf_sl hr) (by omega) (by omega) (by omega) (by omega)
  rw [hlen] at h
  refine h.mono ?_
  rintro e u ⟨hq, hb2⟩
  generalize parseE (bsOf N IM) rva sz = R at hq ⊢
  cases R with
  | none =>
    have hq' : e = .returned (.tuple #[.agg #[.int .i64 0, .slice none 0 0, .slice none 0 0], .int .i64 11]) := hq
    subst hq'
    exact ⟨_, _, _, rfl, ⟨rfl, rfl, rfl⟩, hb2, Lasts.const fun _ => ⟨rfl, rfl, rfl⟩⟩
  | some x =>
    obtain ⟨A, c, A', c', rfl, h1, h2⟩ := hq
    exact ⟨_, _, _, rfl, ⟨rfl, rfl, rfl⟩, hb2, fun W3 hk3 hs3 => ⟨A, c, A', c', rfl, rfl, rfl, (own_lasts h1 W3 hk3 hs3).lower hle, (own_lasts h2 W3 hk3 hs3).lower hle⟩⟩
def ImpS (base : Nat) (R : Option (List ImpV)) (_ : Nat) (v : Value) (U : World) : Prop := match R with
  | none => v = .slice none 0 0
  | some vs => ∃ A c l, v = .slice A l.length c ∧ ImpRows U base A c l ∧ l.map (·.v) = vs
theorem improws_lasts {U : World} {B base : Nat} {A : Option Addr} {c : Nat} {l : List ImpA} (h : ImpRows U B A c l) (hB : base ≤ B) : Lasts B (fun W => ImpRows W base A c l) U := fun W2 hk hs =>
  ⟨(own_lasts h.1 W2 hk hs).lower hB, fun y hy => ⟨by
    rcases (h.2 y hy).1 with k | ⟨b, off, hA, hlt, hc⟩
    · exact .inl k
    · exact SlT.keep (.inr ⟨b, off, hA, hlt, hc⟩) hs fun b' hb' => hk b' ((h.2 y hy).2 b' hb') (by rw [hA] at hb'; simp at hb'; omega), fun b hb => Nat.le_trans hB ((h.2 y hy).2 b hb)⟩⟩
theorem parseI_far {bs : List Nat} {rva n : Nat} {rd : List Nat → Nat → Ds} (h : bs.length < rva) : parseI bs rva n rd = none := by
  unfold parseI
  rw [if_neg (by omega)]
  show impsL bs n rd (17 + 1) rva [] = none
  unfold impsL
  rw [if_neg (by rw [noughtsL_out (by omega)]; decide), if_neg (by omega)]
theorem readI_gen (w : World) (N : Nat) (IM : Nat → Int) (hN : N ≤ 262144) (rva : Nat) (sz : Int) (r1 : rva < 4294967296) :
    ReadE1 w N IM 80 [.agg #[.int .i64 rva, .int .i64 sz]] (erO (parseI (bsOf N IM) rva 20 importD) 10) (ImpS w.heap.size (parseI (bsOf N IM) rva 20 importD)) := fun W gi P ho hb hp hn W2 hk hs => by
  have hr := (ho.of_block hs (hk.block gi ⟨ho.lt, hn⟩)).rowB
  have hlen := bsOf_len N IM
  have hle : w.heap.size ≤ W2.heap.size := Nat.le_trans hb.size hs
  by_cases hf : rva ≤ 1000000
  · have h := imParse_any (some ⟨gi, 0, none⟩) N (bsOf N IM) rva sz W2 (by rw [hlen]; exact Nat.le_refl _) (by omega) (by rw [hlen]; omega) (bsOf_lb hr.by255) (bsOf_sl hr) hf
    rw [hlen] at h
    refine h.mono ?_
    rintro e u ⟨hq, hb2⟩
    generalize parseI (bsOf N IM) rva 20 importD = R at hq ⊢
    cases R with
    | none =>
      have hq' : e = .returned (.tuple #[.slice none 0 0, .int .i64 10]) := hq
      subst hq'
      exact ⟨_, rfl, rfl, hb2, Lasts.const fun _ => rfl⟩
    | some x =>
      obtain ⟨A, c, l, rfl, h1, h2⟩ := hq
      exact ⟨_, rfl, rfl, hb2, fun W3 hk3 hs3 => ⟨A, c, l, rfl, improws_lasts h1 hle W3 hk3 hs3, h2⟩⟩
  · rw [parseI_far (by rw [hlen]; omega)]
    exact (imFR (some ⟨gi, 0, none⟩) N N rva (by omega) (by omega) hN sz W2).mono (by rintro e u ⟨rfl, hb2⟩; exact ⟨_, rfl, rfl, hb2, Lasts.const fun _ => rfl⟩)
theorem readD_gen (w : World) (N : Nat) (IM : Nat → Int) (hN : N ≤ 262144) (rva : Nat) (sz : Int) (r1 : rva < 4294967296) :
    ReadE1 w N IM 84 [.agg #[.int .i64 rva, .int .i64 sz]] (erO (parseI (bsOf N IM) rva 32 delayD) 10) (ImpS w.heap.size (parseI (bsOf N IM) rva 32 delayD)) := fun W gi P ho hb hp hn W2 hk hs => by
  have hr := (ho.of_block hs (hk.block gi ⟨ho.lt, hn⟩)).rowB
  have hlen := bsOf_len N IM
  have hle : w.heap.size ≤ W2.heap.size := Nat.le_trans hb.size hs
  by_cases hf : rva ≤ 1000000
  · have h := imDelays_any (some ⟨gi, 0, none⟩) N (bsOf N IM) rva sz W2 (by rw [hlen]; exact Nat.le_refl _) (by omega) (by rw [hlen]; omega) (bsOf_lb hr.by255) (bsOf_sl hr) hf
    rw [hlen] at h
    refine h.mono ?_
    rintro e u ⟨hq, hb2⟩
    generalize parseI (bsOf N IM) rva 32 delayD = R at hq ⊢
    cases R with
    | none =>
      have hq' : e = .returned (.tuple #[.slice none 0 0, .int .i64 10]) := hq
      subst hq'
      exact ⟨_, rfl, rfl, hb2, Lasts.const fun _ => rfl⟩
    | some x =>
      obtain ⟨A, c, l, rfl, h1, h2⟩ := hq
      exact ⟨_, rfl, rfl, hb2, fun W3 hk3 hs3 => ⟨A, c, l, rfl, improws_lasts h1 hle W3 hk3 hs3, h2⟩⟩
  · rw [parseI_far (by rw [hlen]; omega)]
    exact (deFR (some ⟨gi, 0, none⟩) N N rva (by omega) (by omega) hN sz W2).mono (by rintro e u ⟨rfl, hb2⟩; exact ⟨_, rfl, rfl, hb2, Lasts.const fun _ => rfl⟩)
def RowS1 {α : Type} (C : α → List Value) (sz : Nat) (ty : TypeId) (base : Nat) (R : Option (List α)) (_ : Nat) (v : Value) (U : World) : Prop := match R with
  | none => v = .slice none 0 0
  | some l => ∃ A c, v = .slice A l.length c ∧ OwnT C sz U base ty (.slice A l.length c) l
theorem readR_gen (w : World) (N : Nat) (IM : Nat → Int) (hN : N ≤ 262144) (rva sz : Int) (r0 : 0 ≤ rva) (r1 : rva < 4294967296) (s0 : 0 ≤ sz) (s1 : sz < 4294967296) :
    ReadE1 w N IM 81 [.agg #[.int .i64 rva, .int .i64 sz]] (erO (parseS N IM rva sz) 9) (RowS1 relC 2 82 w.heap.size (parseS N IM rva sz)) := fun W gi P ho hb hp hn W2 hk hs => by
  have hr := (ho.of_block hs (hk.block gi ⟨ho.lt, hn⟩)).rowB
  have hle : w.heap.size ≤ W2.heap.size := Nat.le_trans hb.size hs
  refine (parse_any (some ⟨gi, 0, none⟩) N N IM rva sz W2 (Nat.le_refl _) (by omega) hr.by255 (.inr ⟨gi, 0, rfl, hr.lt, hr.row⟩) (by omega) (by omega) (by omega) (by omega)).mono ?_
  rintro e u ⟨hq, hb2⟩
  generalize parseS N IM rva sz = R at hq ⊢
  cases R with
  | none =>
    have hq' : e = .returned (.tuple #[.slice none 0 0, .int .i64 9]) := hq
    subst hq'
    exact ⟨_, rfl, rfl, hb2, Lasts.const fun _ => rfl⟩
  | some x =>
    obtain ⟨A, c, rfl, h1⟩ := hq
    exact ⟨_, rfl, rfl, hb2, fun W3 hk3 hs3 => ⟨A, c, rfl, (own_lasts h1 W3 hk3 hs3).lower hle⟩⟩
def boundM (bs : List Nat) (rva : Nat) : Option (List BRow) := if rva = 0 then some [] else parseL bs rva 33 rva 0 []
theorem boundM_far {bs : List Nat} {rva : Nat} (h : bs.length < rva) : boundM bs rva = none := by
  unfold boundM
  rw [if_neg (by omega)]
  show parseL bs rva (32 + 1) rva 0 [] = none
  unfold parseL
  rw [if_neg (by rw [noughtsL_out (by omega)]; simp), if_pos (.inl (by omega))]
theorem readB_gen (w : World) (N : Nat) (IM : Nat → Int) (hN : N ≤ 262144) (rva : Nat) (sz : Int) (r1 : rva < 4294967296) :
    ReadE1 w N IM 83 [.agg #[.int .i64 rva, .int .i64 sz]] (erO (boundM (bsOf N IM) rva) 8) (RowS1 bC 2 80 w.heap.size (boundM (bsOf N IM) rva)) := fun W gi P ho hb hp hn W2 hk hs => by
  have hr := (ho.of_block hs (hk.block gi ⟨ho.lt, hn⟩)).rowB
  have hlen := bsOf_len N IM
  have hle : w.heap.size ≤ W2.heap.size := Nat.le_trans hb.size hs
  by_cases h0 : rva = 0
  · subst h0
    have hM : boundM (bsOf N IM) 0 = some [] := by unfold boundM; rw [if_pos rfl]
    rw [hM]
    exact (bndZ (some ⟨gi, 0, none⟩) N N sz W2).mono (by rintro e u ⟨rfl, hb2⟩; exact ⟨_, rfl, rfl, hb2, Lasts.const fun _ => ⟨none, 0, rfl, OwnT.nil _ _ _⟩⟩)
  by_cases hf : rva ≤ 1073741824
  · have h := bparse_any (some ⟨gi, 0, none⟩) N (bsOf N IM) rva sz W2 (bsOf_lb hr.by255) (by rw [hlen]; exact Nat.le_refl _) (by omega) (bsOf_sl hr) (by omega) hf
    rw [hlen] at h
    have hM : parseL (bsOf N IM) rva 33 rva 0 [] = boundM (bsOf N IM) rva := by unfold boundM; rw [if_neg h0]
    rw [hM] at h
    refine h.mono ?_
    rintro e u ⟨hq, hb2⟩
    generalize boundM (bsOf N IM) rva = R at hq ⊢
    cases R with
    | none =>
      have hq' : e = .returned (.tuple #[.slice none 0 0, .int .i64 8]) := hq
      subst hq'
      exact ⟨_, rfl, rfl, hb2, Lasts.const fun _ => rfl⟩
    | some x =>
      obtain ⟨A, c, rfl, h1⟩ := hq
      exact ⟨_, rfl, rfl, hb2, fun W3 hk3 hs3 => ⟨A, c, rfl, (own_lasts h1 W3 hk3 hs3).lower hle⟩⟩
  · rw [boundM_far (by rw [hlen]; omega)]
    exact (bndFR (some ⟨gi, 0, none⟩) N N rva (by omega) (by omega) hN sz W2).mono (by rintro e u ⟨rfl, hb2⟩; exact ⟨_, rfl, rfl, hb2, Lasts.const fun _ => rfl⟩)
def TlsS (base : Nat) (R : Option (Bool × Int × List Int)) (_ : Nat) (a b c : Value) (U : World) : Prop := match R with
  | none => a = .bool false ∧ b = .int .i64 0 ∧ c = .slice none 0 0
  | some x => ∃ A k, a = .bool x.1 ∧ b = .int .i64 x.2.1 ∧ c = .slice A x.2.2.length k ∧ OwnT intC 1 U base 3 (.slice A x.2.2.length k) x.2.2
theorem readT_gen (w : World) (N : Nat) (IM : Nat → Int) (hN : N ≤ 262144) (rva : Nat) (sz base : Int) (r1 : rva < 4294967296) (b0 : 0 ≤ base) (b1 : base ≤ 18446744073709551615) :
    ReadE3 w N IM 82 [.agg #[.int .i64 rva, .int .i64 sz], .int .u64 base] (erO (tlsM N IM rva base) 12) (TlsS w.heap.size (tlsM N IM rva base)) := fun W gi P ho hb hp hn W2 hk hs => by
  have hr := (ho.of_block hs (hk.block gi ⟨ho.lt, hn⟩)).rowB
  have hle : w.heap.size ≤ W2.heap.size := Nat.le_trans hb.size hs
  refine (tls_gen gi 0 N N IM rva sz base W2 hr (by omega) (by omega) b0 b1).mono ?_
  rintro e u ⟨hq, hb2⟩
  generalize tlsM N IM rva base = R at hq ⊢
  rcases hq with ⟨t, x, l, L, c, rfl, rfl, h1⟩ | ⟨rfl, rfl⟩
  · exact ⟨_, _, _, rfl, ⟨rfl, rfl, rfl⟩, hb2, fun W3 hk3 hs3 => ⟨L, c, rfl, rfl, rfl, (own_lasts h1 W3 hk3 hs3).lower hle⟩⟩
  · exact ⟨_, _, _, rfl, ⟨rfl, rfl, rfl⟩, hb2, Lasts.const fun _ => ⟨rfl, rfl, rfl⟩⟩
def rvB (b : Bool) : Int := if b then 1048576 else 0
def szB (b : Bool) : Int := if b then 64 else 0
def erB (b : Bool) (e : Int) : Int := if b then e else 0
def noRowS (_ : Nat) (v : Value) (_ : World) : Prop := v = .slice none 0 0
def noExpS (_ : Nat) (a b c : Value) (_ : World) : Prop := a = .int .i64 0 ∧ b = .slice none 0 0 ∧ c = .slice none 0 0
def noTlsS (_ : Nat) (a b c : Value) (_ : World) : Prop := a = .bool false ∧ b = .int .i64 0 ∧ c = .slice none 0 0
theorem read1_of {w : World} {N : Nat} {IM : Nat → Int} {fn : Nat} (er : Int) (b : Bool)
    (hz : ∀ (A : Option Addr) (n cap : Nat) (sz : Int) (w : World), Calls Tryz.prog fn #[.slice A n cap, .agg #[.int .i64 0, .int .i64 sz]] w fun e u => e = .returned (.tuple #[.slice none 0 0, .int .i64 0]) ∧ Below w.heap.size w u)
    (hf : ∀ (A : Option Addr) (n cap : Nat) (hn : n ≤ 262144) (w : World), Calls Tryz.prog fn #[.slice A n cap, .agg #[.int .i64 1048576, .int .i64 64]] w fun e u => e = .returned (.tuple #[.slice none 0 0, .int .i64 er]) ∧ Below w.heap.size w u)
    (hN : N ≤ 262144) : ReadE1 w N IM fn [.agg #[.int .i64 (rvB b), .int .i64 (szB b)]] (erB b er) noRowS := fun W gi P ho hb hp hn W2 hk hs => by
  cases b with
  | false => exact (hz _ N N _ W2).mono (by rintro e u ⟨rfl, hb⟩; exact ⟨_, rfl, rfl, hb, Lasts.const (fun _ => rfl)⟩)
  | true => exact (hf _ N N hN W2).mono (by rintro e u ⟨rfl, hb⟩; exact ⟨_, rfl, rfl, hb, Lasts.const (fun _ => rfl)⟩)
theorem readE {w : World} {N : Nat} {IM : Nat → Int} (hN : N ≤ 262144) (b : Bool) : ReadE3 w N IM 79 [.agg #[.int .i64 (rvB b), .int .i64 (szB b)]] (erB b 11) noExpS := fun W gi P ho hb hp hn W2 hk hs => by
  cases b with
  | false => exact (expZ _ N N _ W2).mono (by rintro e u ⟨rfl, hb⟩; exact ⟨_, _, _, rfl, ⟨rfl, rfl, rfl⟩, hb, Lasts.const (fun _ => ⟨rfl, rfl, rfl⟩)⟩)
  | true => exact (expF _ N N hN W2).mono (by rintro e u ⟨rfl, hb⟩; exact ⟨_, _, _, rfl, ⟨rfl, rfl, rfl⟩, hb, Lasts.const (fun _ => ⟨rfl, rfl, rfl⟩)⟩)
theorem readT {w : World} {N : Nat} {IM : Nat → Int} (hN : N ≤ 262144) (b : Bool) (base : Int) : ReadE3 w N IM 82 [.agg #[.int .i64 (rvB b), .int .i64 (szB b)], .int .u64 base] (erB b 12) noTlsS := fun W gi P ho hb hp hn W2 hk hs => by
  cases b with
  | false => exact (tlsZ _ N N _ base W2).mono (by rintro e u ⟨rfl, hb⟩; exact ⟨_, _, _, rfl, ⟨rfl, rfl, rfl⟩, hb, Lasts.const (fun _ => ⟨rfl, rfl, rfl⟩)⟩)
  | true => exact (tlsF _ N N hN base W2).mono (by rintro e u ⟨rfl, hb⟩; exact ⟨_, _, _, rfl, ⟨rfl, rfl, rfl⟩, hb, Lasts.const (fun _ => ⟨rfl, rfl, rfl⟩)⟩)
theorem headE_is {n : Nat} {f : Nat → Int} (hE : headE n f = 0) : alignS f (headP n f) (readS f (headP n f)).base (readS f (headP n f)).size ∧ headersP n (headP n f) (readS f (headP n f)).headers (rdF f (headP n f + 6) 2) := by
  unfold headE at hE
  by_cases h0 : (beginS n f).2 ≠ 0
  · rw [if_pos h0] at hE; exact absurd hE h0
  rw [if_neg h0] at hE
  by_cases h1 : optS f (beginS n f).1.toNat ≠ 0
  · rw [if_pos h1] at hE; exact absurd hE h1
  rw [if_neg h1] at hE
  by_cases h2 : ¬ alignS f (beginS n f).1.toNat (readS f (beginS n f).1.toNat).base (readS f (beginS n f).1.toNat).size
  · rw [if_pos h2] at hE; exact absurd hE (by decide)
  rw [if_neg h2] at hE
  by_cases h3 : ¬ headersP n (beginS n f).1.toNat (readS f (beginS n f).1.toNat).headers (rdF f ((beginS n f).1.toNat + 6) 2)
  · rw [if_pos h3] at hE; exact absurd hE (by decide)
  exact ⟨Classical.not_not.1 h2, Classical.not_not.1 h3⟩
def HeadG (n : Nat) (f : Nat → Int) (W : World) (cs : Array Value) : Prop := ∃ g, HeadL W cs (readS f (headP n f)) g (headK n f) (sectsS f (headP n f + 264) (headK n f))
theorem headK_any (b off n cap : Nat) (f : Nat → Int) (w : World) (h : RowB w b off n cap f) (hE : headE n f = 0) (N hd : Nat) (hN : (readS f (headP n f)).size = N) (hhd : (readS f (headP n f)).headers = hd) :
    N ≤ 262144 ∧ HeadK w (.slice (some ⟨b, off, none⟩) n cap) N (imgF N f n hd (sectsS f (headP n f + 264) (headK n f))) (HeadG n f) (fun i => ((readS f (headP n f)).dirs i).1) (fun i => ((readS f (headP n f)).dirs i).2) (readS f (headP n f)).base := by
  obtain ⟨h1, h2⟩ := headE_is hE
  have hN2 : N ≤ 262144 := by have := h1.2.2.2.2.2.2.2; omega
  have hlen : (sectsS f (headP n f + 264) (headK n f)).length = headK n f := by simp [sectsS]
  have hK16 : headK n f ≤ 16 := by
    have a := h2.1; have b := h2.2.1
    unfold headK
    omega
  refine ⟨hN2, ?_, ?_, ?_, ?_, ?_, ?_⟩
  · intro W hb
    refine (hparse_any b off n cap f W (h.below hb)).mono ?_
    rintro e u ⟨⟨v, rfl, cs, hv, hr⟩, hb2⟩
    rw [hE] at hv
    subst hv
    refine ⟨⟨cs, rfl, ?_⟩, hb2⟩
    rcases hr with ⟨hx, _⟩ | ⟨_, g, k2, k3, k4⟩
    · exact absurd hE hx
    · refine ⟨g, by rw [hlen]; exact k2, k3, k4, ?_, by rw [hlen]; exact hK16, by rw [hhd]; omega, by rw [hhd]; have := h2.2.2.2.1; omega⟩
      intro s hs
      simp only [sectsS, List.mem_map] at hs
      obtain ⟨j, _, rfl⟩ := hs
      exact sectS_bd h.by255 _
  · rintro u cs ⟨g, x⟩
    exact ⟨x.hv.size, x.hv.one rfl⟩
  · rintro u u' cs ⟨g, x⟩ hb
    exact ⟨g, x.below hb⟩
  · rintro W cs hb ⟨g, x⟩
    exact lays_any cs _ g _ _ b off n cap f N hd W x (h.below hb) hN hN2 hhd
  · rintro u cs ⟨g, x⟩ i hi
    exact ⟨x.hv.dir0 i hi, x.hv.dir1 i hi⟩
  · rintro u cs ⟨g, x⟩
    exact x.hv.c0
theorem peparse_few (b off n cap : Nat) (f : Nat → Int) (w : World) (h : RowB w b off n cap f) (hE : headE n f = 0) (N hd : Nat) (hN : (readS f (headP n f)).size = N) (hhd : (readS f (headP n f)).headers = hd)
    (S : Nat → Bool) (hS : ∀ i, i < 16 → i ∈ [0, 1, 5, 9, 11, 13] → (readS f (headP n f)).dirs i = (rvB (S i), szB (S i))) :
    Calls Tryz.prog 11 #[.slice (some ⟨b, off, none⟩) n cap] w fun x u => Below w.heap.size w u ∧ PeTold w N (imgF N f n hd (sectsS f (headP n f + 264) (headK n f))) (HeadG n f) (firstE (erB (S 0) 11) (erB (S 1) 10) (erB (S 5) 9) (erB (S 9) 12) (erB (S 11) 8) (erB (S 13) 10)) noExpS noRowS noRowS noTlsS noRowS noRowS x u := by
  obtain ⟨hN2, hk⟩ := headK_any b off n cap f w h hE N hd hN hhd
  refine peparse_head _ N _ _ _ _ _ w hk _ _ _ _ _ _ _ _ _ _ _ _ ?_ ?_ ?_ ?_ ?_ ?_
  · simp only [hS 0 (by omega) (by decide)]; exact readE hN2 _
  · simp only [hS 1 (by omega) (by decide)]; exact read1_of 10 _ imZ imF hN2
  · simp only [hS 5 (by omega) (by decide)]; exact read1_of 9 _ relZ relF hN2
  · simp only [hS 9 (by omega) (by decide)]; exact readT hN2 _ _
  · simp only [hS 11 (by omega) (by decide)]; exact read1_of 8 _ bndZ bndF hN2
  · simp only [hS 13 (by omega) (by decide)]; exact read1_of 10 _ deZ deF hN2
theorem dirs_nat (n : Nat) (f : Nat → Int) (h : Bytes255 f) : ∃ D : Nat → Nat × Nat, ∀ i, (readS f (headP n f)).dirs i = (((D i).1 : Int), ((D i).2 : Int)) ∧ (D i).1 < 4294967296 ∧ (D i).2 < 4294967296 := by
  refine ⟨fun i => (((readS f (headP n f)).dirs i).1.toNat, ((readS f (headP n f)).dirs i).2.toNat), fun i => ?_⟩
  have h1 := rdF_bd f h 4 (headP n f + 136 + 8 * i)
  have h2 := rdF_bd f h 4 (headP n f + 136 + 8 * i + 4)
  rw [show (256 : Int) ^ 4 = 4294967296 by rfl] at h1 h2
  refine ⟨Prod.ext ?_ ?_, ?_, ?_⟩
  · exact (Int.toNat_of_nonneg h1.1).symm
  · exact (Int.toNat_of_nonneg h2.1).symm
  · show (rdF f (headP n f + 136 + 8 * i) 4).toNat < _
    omega
  · show (rdF f (headP n f + 136 + 8 * i + 4) 4).toNat < _
    omega
def peE (N : Nat) (IM : Nat → Int) (D : Nat → Nat × Nat) (B : Int) : Int :=
  firstE (erO (parseE (bsOf N IM) (D 0).1 (D 0).2) 11) (erO (parseI (bsOf N IM) (D 1).1 20 importD) 10) (erO (parseS N IM (D 5).1 (D 5).2) 9) (erO (tlsM N IM (D 9).1 B) 12) (erO (boundM (bsOf N IM) (D 11).1) 8) (erO (parseI (bsOf N IM) (D 13).1 32 delayD) 10)
theorem peparse_gen (b off n cap : Nat) (f : Nat → Int) (w : World) (h : RowB w b off n cap f) (hE : headE n f = 0) (N hd : Nat) (hN : (readS f (headP n f)).size = N) (hhd : (readS f (headP n f)).headers = hd)
    (IM : Nat → Int) (hIM : imgF N f n hd (sectsS f (headP n f + 264) (headK n f)) = IM) (D : Nat → Nat × Nat) (hD : ∀ i, (readS f (headP n f)).dirs i = (((D i).1 : Int), ((D i).2 : Int)) ∧ (D i).1 < 4294967296 ∧ (D i).2 < 4294967296) (B : Int) (hB : (readS f (headP n f)).base = B) :
    Calls Tryz.prog 11 #[.slice (some ⟨b, off, none⟩) n cap] w fun x u => Below w.heap.size w u ∧ PeTold w N IM (HeadG n f) (peE N IM D B) (ExpS w.heap.size (parseE (bsOf N IM) (D 0).1 (D 0).2)) (ImpS w.heap.size (parseI (bsOf N IM) (D 1).1 20 importD)) (RowS1 relC 2 82 w.heap.size (parseS N IM (D 5).1 (D 5).2)) (TlsS w.heap.size (tlsM N IM (D 9).1 B)) (RowS1 bC 2 80 w.heap.size (boundM (bsOf N IM) (D 11).1)) (ImpS w.heap.size (parseI (bsOf N IM) (D 13).1 32 delayD)) x u := by
  obtain ⟨hN2, hk⟩ := headK_any b off n cap f w h hE N hd hN hhd
  have hbd := rdF_bd f h.by255 8 (headP n f + 48)
  rw [show (256 : Int) ^ 8 = 18446744073709551616 by rfl] at hbd
  have hb2 : (readS f (headP n f)).base = rdF f (headP n f + 48) 8 := rfl
  rw [hB] at hb2
  rw [hIM, hB] at hk
  unfold peE
  refine peparse_head _ N IM (HeadG n f) _ _ B w hk _ _ _ _ _ _ _ _ _ _ _ _ ?_ ?_ ?_ ?_ ?_ ?_
  · simp only [(hD 0).1]; exact readE_gen w N IM hN2 _ _ (by omega) (by have := (hD 0).2.1; omega) (by omega) (by have := (hD 0).2.2; omega)
  · simp only [(hD 1).1]; exact readI_gen w N IM hN2 _ _ (hD 1).2.1
  · simp only [(hD 5).1]; exact readR_gen w N IM hN2 _ _ (by omega) (by have := (hD 5).2.1; omega) (by omega) (by have := (hD 5).2.2; omega)
  · simp only [(hD 9).1]; exact readT_gen w N IM hN2 _ _ _ (hD 9).2.1 (by omega) (by omega)
  · simp only [(hD 11).1]; exact readB_gen w N IM hN2 _ _ (hD 11).2.1
  · simp only [(hD 13).1]; exact readD_gen w N IM hN2 _ _ (hD 13).2.1
theorem OwnC.empty (w : World) : OwnC (w.alloc (.cells #[] 5)) w.heap.size w.heap.size 0 0 (fun _ => 0) :=
  ⟨Nat.le_refl _, by simp, fun i hi => by omega, fun _ => by omega, Nat.le_refl _, by omega, fun j hj => by omega⟩
end Go.Proofs.YtplgdpjbkdagfaaGreat
