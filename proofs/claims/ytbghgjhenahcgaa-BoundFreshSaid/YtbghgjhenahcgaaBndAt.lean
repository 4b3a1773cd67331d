/- law 9's At: an image's bytes with rows at 16. -/
import Derived.Test.YtbghgjhenahcgaaBndB
import Derived.Test.YtbghgjhenahcgaaLstPut
import Derived.Deep.RegionWith
import Derived.Deep.Cut
import Derived.Test.YtbghgjhenahcgaaCopy
import Derived.Test.YtbghgjhenahcgaaRegK
namespace Go.Proofs.Ytbghgjhenahcgaa
open Go.ChangeShapes Go.WideShapes Go.ChangeAt Go.RowKit
set_option linter.unusedVariables false

def atStep (ms : List Nat) (b : List Nat) (i : Nat) (x : BRow) : List Nat :=
  (putL (putL (putL b (16 + 8 * i) 4 x.2) (20 + 8 * i) 2 (b.length - 16)) (22 + 8 * i) 2 (ms.getD i 0) ++ x.1) ++ [0]
def atL (ms : List Nat) : List BRow → Nat → List Nat → List Nat
  | [], _, b => b
  | x :: r, i, b => atL ms r (i + 1) (atStep ms b i x)

/-- Whole numbers that lie in a slice. -/
def Nums (w : World) (M : Option Addr) (ms : List Nat) : Prop := ms = [] ∨ ∃ b off, M = some ⟨b, off, none⟩ ∧ b < w.heap.size ∧ ∀ i, i < ms.length → w.cell? ⟨b, off + i, none⟩ = some (.int .i64 (ms.getD i 0 : Nat))
theorem Nums.below {w w' : World} {M : Option Addr} {ms : List Nat} (h : Nums w M ms) (hb : Below w.heap.size w w') : Nums w' M ms := by
  rcases h with h | ⟨b, off, rfl, hlt, hc⟩
  · exact .inl h
  · exact .inr ⟨b, off, rfl, Nat.lt_of_lt_of_le hlt hb.size, fun i hi => (hb.cell (p := ⟨b, _, none⟩) hlt).trans (hc i hi)⟩
theorem SlT.row {w : World} {L : Option Addr} {l : List BRow} (h : SlT bC 2 w L l) {i : Nat} (hi : i < l.length) : ∃ b off, L = some ⟨b, off, none⟩ ∧ b < w.heap.size ∧ w.cell? ⟨b, off + i * 2, none⟩ = some (.string (txt l[i].1)) ∧ w.cell? ⟨b, off + i * 2 + 1, none⟩ = some (.int .i64 (l[i].2 : Nat)) := by
  rcases h with h | ⟨b, off, rfl, hlt, hc⟩
  · rw [h] at hi; simp at hi
  · exact ⟨b, off, rfl, hlt, by have := hc i hi 0 _ (by simp [bC]; rfl); simpa using this, by have := hc i hi 1 _ (by simp [bC]; rfl); rwa [← Nat.add_assoc] at this⟩

theorem src_zero (w : World) : Src Try.prog 1 29 (.slice (some ⟨w.heap.size, 0, none⟩) 1 1) 1 (bytesL 1 (lF [0])) (w.alloc (.cells #[.int .u8 0] 5)) :=
  src_sl (.inr ⟨w.heap.size, 0, rfl, by simp, fun i hi => by
    obtain rfl : i = 0 := by omega
    simp [go_sem, lF]⟩)

/-- What a row may be here. -/
structure RowOkB (x : BRow) : Prop where
  lb : Lb x.1
  len : x.1.length ≤ 99
  stamp : x.2 ≤ 4294967295

theorem atStep_ok {ms : List Nat} {b : List Nat} {i : Nat} {x : BRow} (hb : Lb b) (hx : RowOkB x) (h : 24 + 8 * i ≤ b.length) :
    Lb (atStep ms b i x) ∧ (atStep ms b i x).length = b.length + x.1.length + 1 := by
  unfold atStep
  have l1 := putL_len (b := b) (o := 16 + 8 * i) (n := 4) (by omega) x.2
  have l2 := putL_len (b := putL b (16 + 8 * i) 4 x.2) (o := 20 + 8 * i) (n := 2) (by omega) (b.length - 16)
  have l3 := putL_len (b := putL (putL b (16 + 8 * i) 4 x.2) (20 + 8 * i) 2 (b.length - 16)) (o := 22 + 8 * i) (n := 2) (by omega) (ms.getD i 0)
  refine ⟨((putL_lb (putL_lb (putL_lb hb _ _ _) _ _ _) _ _ _).append hx.lb).append (fun v hv => by simp at hv; omega), ?_⟩
  simp only [List.length_append, l3, l2, l1, List.length_singleton]

set_option maxRecDepth 100000 in
set_option maxHeartbeats 4000000 in
theorem at_any (l : List BRow) (A : Option Addr) (cap : Nat) (ms : List Nat) (M : Option Addr) (mcap : Nat) (w : World) (hl : SlT bC 2 w A l) (h36 : l.length ≤ 36) (hx : ∀ x ∈ l, RowOkB x) (hm : Nums w M ms) (hms : ∀ v ∈ ms, v ≤ 3) (hml : ms.length ≤ 100)
    (res : List Nat) (hres : atL ms (l.take 34) 0 (List.replicate (24 + 8 * min l.length 34) 0) = res) :
    Calls Try.prog 15 #[.int .i64 16, .slice A l.length cap, .slice M ms.length mcap] w fun e w' => ∃ g c, e = .returned (.slice (some ⟨g, 0, none⟩) res.length c) ∧ OwnD w' w.heap.size g c res ∧ Below w.heap.size w w' := by
  obtain ⟨N, hN⟩ : ∃ N, min l.length 34 = N := ⟨_, rfl⟩
  rw [hN] at hres
  have HRS := Lib.hid hres
  have HLT := Lib.hid (fun W (hW : Below w.heap.size w W) => hl.below hW)
  have HMT := Lib.hid (fun W (hW : Below w.heap.size w W) => hm.below hW)
  have HX := Lib.hid hx
  have HMS := Lib.hid hms
  have hmin : min (l.length : Int) 34 = (N : Int) := by omega
  have hN34 : N ≤ 34 := by omega
  have HNL := Lib.hid (show N ≤ l.length by omega)
  obtain ⟨Z, hZ⟩ : ∃ Z, 24 + 8 * N = Z := ⟨_, rfl⟩
  have hz1 : (16 : Int) + 8 * (N : Int) + 8 = (Z : Int) := by omega
  rw [hZ] at hres
  have hZl : Z ≤ 300 := by omega
  have HZ := Lib.hid hZ
  have HNN := Lib.hid hN
  clear hl hm hx hms hN hZ hres
  go_enter Try.func15, Try.ntmps15
  go_wp2_with (at_make; refine wpList_make_bytes _ rfl (.tmp 20) (.tmp 20) 29 rfl 5 (.int .u8 0) 1 (by kernel_rfl) (by kernel_rfl) rfl .i64 .i64 Z (by simp [Act.eval, Act.put]) (by simp [Act.eval, Act.put]) (by omega) (by omega) ?_; intro w1 hw1 ho1)
  have HO := Lib.hid (OwnD.noughts (base := w.heap.size) ho1 (Nat.le_refl _) (by omega))
  have HB := Lib.hid hw1
  have HRZ := Lib.hid (show atL ms ((l.take 34).drop 0) 0 (List.replicate Z 0) = res from by have h := HRS.out; rw [HZ.out] at h; exact h)
  clear HRS hw1 ho1
  have HE := Lib.hid (show (l.take 34).length = N from by rw [List.length_take]; have := HNN.out; omega)
  go_loopw [8, 9] (fun v8 v9 wr => ∃ (i g c : Nat) (b : List Nat), i ≤ N ∧ v9 = .int .i64 i ∧ v8 = .slice (some ⟨g, 0, none⟩) b.length c ∧ OwnD wr w.heap.size g c b ∧ Z ≤ b.length ∧ b.length ≤ 300 + 100 * i ∧ Below w.heap.size w wr ∧ atL ms ((l.take 34).drop i) i b = res) (fun _ v9 _ => N - (intOf v9).toNat)
  case atStart => exact ⟨0, w.heap.size, Z, _, Nat.zero_le _, rfl, by rw [List.length_replicate], HO.out, by rw [List.length_replicate]; exact Nat.le_refl _, by rw [List.length_replicate]; omega, HB.out, HRZ.out⟩
  case round =>
    obtain ⟨i, g, c, b, hi, rfl, rfl, hown, hzb, hbz, hbel, hat⟩ := hrel
    replace HO := Lib.hid hown
    have HBW := Lib.hid hbel
    have HAT := Lib.hid hat
    clear hown hbel hat
    by_cases hlt : i < N
    · have hil : i < l.length := by have := HNL.out; omega
      obtain ⟨bl, off, rfl, hbl, q0, q1⟩ := (HLT.out wr HBW.out).row hil
      obtain ⟨x, hxe⟩ : ∃ x, l[i] = x := ⟨_, rfl⟩
      have hxo := HX.out x (hxe ▸ List.getElem_mem hil)
      rw [hxe] at q0 q1
      have hat := HAT.out
      rw [List.drop_eq_getElem_cons (by have := HE.out; omega), List.getElem_take, hxe] at hat
      simp only [atL] at hat
      replace HAT := Lib.hid hat
      have HXO := Lib.hid hxo
      have hx4 := hxo.stamp
      have HXE := Lib.hid hxe
      clear hxe hat hxo
      obtain ⟨q, hq⟩ : ∃ q, 8 * i = q := ⟨_, rfl⟩
      obtain ⟨o1, ho1⟩ : ∃ o, 16 + q = o := ⟨_, rfl⟩
      obtain ⟨o2, ho2⟩ : ∃ o, 20 + q = o := ⟨_, rfl⟩
      obtain ⟨o3, ho3⟩ : ∃ o, 22 + q = o := ⟨_, rfl⟩
      have e8 : 8 * (i : Int) = (q : Int) := by omega
      have e1 : 16 + (q : Int) = (o1 : Int) := by omega
      have e2 : 20 + (q : Int) = (o2 : Int) := by omega
      have e3 : 22 + (q : Int) = (o3 : Int) := by omega
      have hq3 : q ≤ 272 := by omega
      have hz8 := HZ.out
      have hstr := Lib.hid (fun W (hW : Keeps wr W) => show (convert 29 9 (.slice (some ⟨g, 0, none⟩) b.length c)).run Try.prog W = .ok (.string (txt b)) W from run_str (cap := c) (hW.row HO.out.row HO.out.lt))
      have w8 : IntKind.i64.wrap (q : Int) = (q : Int) := by rw [IntKind.wrap_i64]; omega
      have w1 : IntKind.i64.wrap (o1 : Int) = (o1 : Int) := by rw [IntKind.wrap_i64]; omega
      have wx : IntKind.u64.wrap (x.2 : Int) = (x.2 : Int) := by rw [IntKind.wrap_u64]; omega
      have HP1 := Lib.hid (fun W => put_list b o1 4 x.2 W HO.out.lb (by omega) (by omega) (by omega) (by omega) (by omega))
      have HQ := Lib.hid (And.intro hq (And.intro ho1 (And.intro ho2 ho3)))
      clear hq ho1 ho2 ho3 hz8
      go_upto_region 6 with (fail)
      have HSTR := Lib.hid (fun W (hW : Below wr.heap.size wr W) => show (convert 29 9 (.slice (some ⟨g, 0, none⟩) b.length c)).run Try.prog W = .ok (.string (txt b)) W from run_str (cap := c) (HO.out.below hW).row)
      have HQ1 := Lib.hid (fun W (hW : Below wr.heap.size wr W) => (hW.cell (p := ⟨bl, off + i * 2 + 1, none⟩) hbl).trans q1)
      have HS := Lib.hid (show Below wr.heap.size wr wr.drew from (Below.refl _ _).drew)
      refine wp_region_noPanic ?_
      refine wp_region_K (fun W => Below wr.heap.size wr W) (fun _ => True) 99 (by kernel_rfl) ?_
      refine wpAnyK_take (i := 0) (oi := ?_) (v := ?_) ?_ (by kernel_rfl) (by kernel_rfl) (by kernel_rfl) (fun _ _ _ h => h) (by decide) ?_ HS.out (fun _ => trivial) ?_
      rotate_left 2
      · (simp only [List.getElem?_toArray, List.getElem?_cons_succ, List.getElem?_cons_zero]; rfl)
      · (first | exact Or.inr ⟨by rfl, rfl⟩ | (refine Or.inl ⟨by rfl, ?_⟩; intro W hSw; clear hSw; go_simp; try with_reducible rfl))
      try simp only [Act.put, List.setIfInBounds_toArray, List.set_cons_zero, List.set_cons_succ]
      refine wpAnyK_take (i := 1) (oi := ?_) (v := ?_) ?_ (by kernel_rfl) (by kernel_rfl) (by kernel_rfl) (fun _ _ _ h => h) (by decide) ?_ HS.out (fun _ => trivial) ?_
      rotate_left 2
      · (simp only [List.getElem?_toArray, List.getElem?_cons_succ, List.getElem?_cons_zero]; rfl)
      · (first | exact Or.inr ⟨by rfl, rfl⟩ | (refine Or.inl ⟨by rfl, ?_⟩; intro W hSw; have hq := HSTR.out W hSw; clear hSw; go_simp; try with_reducible rfl))
      try simp only [Act.put, List.setIfInBounds_toArray, List.set_cons_zero, List.set_cons_succ]
      refine wpAnyK_take (i := 2) (oi := ?_) (v := ?_) ?_ (by kernel_rfl) (by kernel_rfl) (by kernel_rfl) (fun _ _ _ h => h) (by decide) ?_ HS.out (fun _ => trivial) ?_
      rotate_left 2
      · (simp only [List.getElem?_toArray, List.getElem?_cons_succ, List.getElem?_cons_zero]; rfl)
      · (first | exact Or.inr ⟨by rfl, rfl⟩ | (refine Or.inl ⟨by rfl, ?_⟩; intro W hSw; clear hSw; go_simp; try with_reducible rfl))
      try simp only [Act.put, List.setIfInBounds_toArray, List.set_cons_zero, List.set_cons_succ]
      refine wpAnyK_take (i := 3) (oi := ?_) (v := ?_) ?_ (by kernel_rfl) (by kernel_rfl) (by kernel_rfl) (fun _ _ _ h => h) (by decide) ?_ HS.out (fun _ => trivial) ?_
      rotate_left 2
      · (simp only [List.getElem?_toArray, List.getElem?_cons_succ, List.getElem?_cons_zero]; rfl)
      · (first | exact Or.inr ⟨by rfl, rfl⟩ | (refine Or.inl ⟨by rfl, ?_⟩; intro W hSw; clear hSw; go_simp; try with_reducible rfl))
      try simp only [Act.put, List.setIfInBounds_toArray, List.set_cons_zero, List.set_cons_succ]
      refine wpAnyK_take (i := 4) (oi := ?_) (v := ?_) ?_ (by kernel_rfl) (by kernel_rfl) (by kernel_rfl) (fun _ _ _ h => h) (by decide) ?_ HS.out (fun _ => trivial) ?_
      rotate_left 2
      · (simp only [List.getElem?_toArray, List.getElem?_cons_succ, List.getElem?_cons_zero]; rfl)
      · (first | exact Or.inr ⟨by rfl, rfl⟩ | (refine Or.inl ⟨by rfl, ?_⟩; intro W hSw; clear hSw; go_simp; try with_reducible rfl))
      try simp only [Act.put, List.setIfInBounds_toArray, List.set_cons_zero, List.set_cons_succ]
      refine wpAnyK_take (i := 5) (oi := ?_) (v := ?_) ?_ (by kernel_rfl) (by kernel_rfl) (by kernel_rfl) (fun _ _ _ h => h) (by decide) ?_ HS.out (fun _ => trivial) ?_
      rotate_left 2
      · (simp only [List.getElem?_toArray, List.getElem?_cons_succ, List.getElem?_cons_zero]; rfl)
      · (first | exact Or.inr ⟨by rfl, rfl⟩ | (refine Or.inl ⟨by rfl, ?_⟩; intro W hSw; clear hSw; go_simp; try with_reducible rfl))
      try simp only [Act.put, List.setIfInBounds_toArray, List.set_cons_zero, List.set_cons_succ]
      refine wpAnyK_take (i := 6) (oi := ?_) (v := ?_) ?_ (by kernel_rfl) (by kernel_rfl) (by kernel_rfl) (fun _ _ _ h => h) (by decide) ?_ HS.out (fun _ => trivial) ?_
      rotate_left 2
      · (simp only [List.getElem?_toArray, List.getElem?_cons_succ, List.getElem?_cons_zero]; rfl)
      · (first | exact Or.inr ⟨by rfl, rfl⟩ | (refine Or.inl ⟨by rfl, ?_⟩; intro W hSw; clear hSw; go_simp; try with_reducible rfl))
      try simp only [Act.put, List.setIfInBounds_toArray, List.set_cons_zero, List.set_cons_succ]
      refine wpAnyK_take (i := 7) (oi := ?_) (v := ?_) ?_ (by kernel_rfl) (by kernel_rfl) (by kernel_rfl) (fun _ _ _ h => h) (by decide) ?_ HS.out (fun _ => trivial) ?_
      rotate_left 2
      · (simp only [List.getElem?_toArray, List.getElem?_cons_succ, List.getElem?_cons_zero]; rfl)
      · (first | exact Or.inr ⟨by rfl, rfl⟩ | (refine Or.inl ⟨by rfl, ?_⟩; intro W hSw; clear hSw; go_simp; try with_reducible rfl))
      try simp only [Act.put, List.setIfInBounds_toArray, List.set_cons_zero, List.set_cons_succ]
      refine wpAnyK_take (i := 8) (oi := ?_) (v := ?_) ?_ (by kernel_rfl) (by kernel_rfl) (by kernel_rfl) (fun _ _ _ h => h) (by decide) ?_ HS.out (fun _ => trivial) ?_
      rotate_left 2
      · (simp only [List.getElem?_toArray, List.getElem?_cons_succ, List.getElem?_cons_zero]; rfl)
      · (first | exact Or.inr ⟨by rfl, rfl⟩ | (refine Or.inl ⟨by rfl, ?_⟩; intro W hSw; clear hSw; go_simp; try with_reducible rfl))
      try simp only [Act.put, List.setIfInBounds_toArray, List.set_cons_zero, List.set_cons_succ]
      refine wpAnyK_take (i := 9) (oi := ?_) (v := ?_) ?_ (by kernel_rfl) (by kernel_rfl) (by kernel_rfl) (fun _ _ _ h => h) (by decide) ?_ HS.out (fun _ => trivial) ?_
      rotate_left 2
      · (simp only [List.getElem?_toArray, List.getElem?_cons_succ, List.getElem?_cons_zero]; rfl)
      · (first | exact Or.inr ⟨by rfl, rfl⟩ | (refine Or.inl ⟨by rfl, ?_⟩; intro W hSw; clear hSw; go_simp; try with_reducible rfl))
      try simp only [Act.put, List.setIfInBounds_toArray, List.set_cons_zero, List.set_cons_succ]
      refine wpAnyK_take (i := 10) (oi := ?_) (v := ?_) ?_ (by kernel_rfl) (by kernel_rfl) (by kernel_rfl) (fun _ _ _ h => h) (by decide) ?_ HS.out (fun _ => trivial) ?_
      rotate_left 2
      · (simp only [List.getElem?_toArray, List.getElem?_cons_succ, List.getElem?_cons_zero]; rfl)
      · (first | exact Or.inr ⟨by rfl, rfl⟩ | (refine Or.inl ⟨by rfl, ?_⟩; intro W hSw; have hq := HQ1.out W hSw; clear hSw; go_simp; try with_reducible rfl))
      try simp only [Act.put, List.setIfInBounds_toArray, List.set_cons_zero, List.set_cons_succ]
      refine wpAnyK_take (i := 11) (oi := ?_) (v := ?_) ?_ (by kernel_rfl) (by kernel_rfl) (by kernel_rfl) (fun _ _ _ h => h) (by decide) ?_ HS.out (fun _ => trivial) ?_
      rotate_left 2
      · (simp only [List.getElem?_toArray, List.getElem?_cons_succ, List.getElem?_cons_zero]; rfl)
      · (first | exact Or.inr ⟨by rfl, rfl⟩ | (refine Or.inl ⟨by rfl, ?_⟩; intro W hSw; clear hSw; go_simp; try with_reducible rfl))
      try simp only [Act.put, List.setIfInBounds_toArray, List.set_cons_zero, List.set_cons_succ]
      refine wpAnyK_one (i := 12) (by kernel_rfl) rfl (fun K hK => ?_)
      go_simp
      go_at_call 21
      refine (HP1.out _).mono ?_
      rintro e w2 ⟨rfl, hw2⟩
      have HS2 := Lib.hid (HS.out.trans (hw2.mono HS.out.size))
      clear hw2
      refine hK.out _ _ HS2.out (fun _ => trivial) ?_
      clear hK K
      try simp only [Act.put, List.setIfInBounds_toArray, List.set_cons_zero, List.set_cons_succ]
      refine wpAnyK_take (i := 13) (oi := ?_) (v := ?_) ?_ (by kernel_rfl) (by kernel_rfl) (by kernel_rfl) (fun _ _ _ h => h) (by decide) ?_ HS2.out (fun _ => trivial) ?_
      rotate_left 2
      · (simp only [List.getElem?_toArray, List.getElem?_cons_succ, List.getElem?_cons_zero]; rfl)
      · (first | exact Or.inr ⟨by rfl, rfl⟩ | (refine Or.inl ⟨by rfl, ?_⟩; intro W hSw; clear hSw; go_simp; try with_reducible rfl))
      try simp only [Act.put, List.setIfInBounds_toArray, List.set_cons_zero, List.set_cons_succ]
      refine wpAnyK_take (i := 14) (oi := ?_) (v := ?_) ?_ (by kernel_rfl) (by kernel_rfl) (by kernel_rfl) (fun _ _ _ h => h) (by decide) ?_ HS2.out (fun _ => trivial) ?_
      rotate_left 2
      · (simp only [List.getElem?_toArray, List.getElem?_cons_succ, List.getElem?_cons_zero]; rfl)
      · (first | exact Or.inr ⟨by rfl, rfl⟩ | (refine Or.inl ⟨by rfl, ?_⟩; intro W hSw; clear hSw; go_simp; try with_reducible rfl))
      try simp only [Act.put, List.setIfInBounds_toArray, List.set_cons_zero, List.set_cons_succ]
      refine wpAnyK_take (i := 15) (oi := ?_) (v := ?_) ?_ (by kernel_rfl) (by kernel_rfl) (by kernel_rfl) (fun _ _ _ h => h) (by decide) ?_ HS2.out (fun _ => trivial) ?_
      rotate_left 2
      · (simp only [List.getElem?_toArray, List.getElem?_cons_succ, List.getElem?_cons_zero]; rfl)
      · (first | exact Or.inr ⟨by rfl, rfl⟩ | (refine Or.inl ⟨by rfl, ?_⟩; intro W hSw; clear hSw; go_simp; try with_reducible rfl))
      try simp only [Act.put, List.setIfInBounds_toArray, List.set_cons_zero, List.set_cons_succ]
      refine wpAnyK_take (i := 16) (oi := ?_) (v := ?_) ?_ (by kernel_rfl) (by kernel_rfl) (by kernel_rfl) (fun _ _ _ h => h) (by decide) ?_ HS2.out (fun _ => trivial) ?_
      rotate_left 2
      · (simp only [List.getElem?_toArray, List.getElem?_cons_succ, List.getElem?_cons_zero]; rfl)
      · (first | exact Or.inr ⟨by rfl, rfl⟩ | (refine Or.inl ⟨by rfl, ?_⟩; intro W hSw; clear hSw; go_simp; try with_reducible rfl))
      try simp only [Act.put, List.setIfInBounds_toArray, List.set_cons_zero, List.set_cons_succ]
      refine wpAnyK_take (i := 17) (oi := ?_) (v := ?_) ?_ (by kernel_rfl) (by kernel_rfl) (by kernel_rfl) (fun _ _ _ h => h) (by decide) ?_ HS2.out (fun _ => trivial) ?_
      rotate_left 2
      · (simp only [List.getElem?_toArray, List.getElem?_cons_succ, List.getElem?_cons_zero]; rfl)
      · (first | exact Or.inr ⟨by rfl, rfl⟩ | (refine Or.inl ⟨by rfl, ?_⟩; intro W hSw; clear hSw; go_simp; try with_reducible rfl))
      try simp only [Act.put, List.setIfInBounds_toArray, List.set_cons_zero, List.set_cons_succ]
      refine wpAnyK_done (by kernel_rfl) ?_ _
      refine NoPanic.normal ?_
      have HLB := Lib.hid HO.out.lb
      replace HO := Lib.hid (HO.out.below HS2.out)
      replace HBW := Lib.hid (HBW.out.trans (HS2.out.mono HBW.out.size))
      have hl1 := putL_len (b := b) (o := o1) (n := 4) (by have := HQ.out; have := HZ.out; omega) x.2
      have hb1 := putL_lb HLB.out o1 4 x.2
      obtain ⟨b1, hbe1⟩ : ∃ b1, putL b o1 4 x.2 = b1 := ⟨_, rfl⟩
      rw [hbe1] at hl1 hb1 ⊢
      have HB1 := Lib.hid hbe1
      obtain ⟨ln, hln⟩ : ∃ ln, b.length - 16 = ln := ⟨_, rfl⟩
      have hln1 : (b.length : Int) - 16 = (ln : Int) := by have := HZ.out; omega
      have wln : IntKind.u64.wrap (ln : Int) = (ln : Int) := by rw [IntKind.wrap_u64]; omega
      have HP2 := Lib.hid (fun W => put_list b1 o2 2 ln W hb1 (by omega) (by omega) (by omega) (by have := HQ.out; have := HZ.out; omega) (by omega))
      have HL1 := Lib.hid hl1
      have HBB1 := Lib.hid hb1
      have HLN := Lib.hid hln
      clear hl1 hb1 hbe1 hln HSTR HQ1 HS HS2 HP1 q1 q0 hbl
      go_wp2_with fail
      refine (HP2.out _).mono ?_
      rintro e w3 ⟨rfl, hw3⟩
      have hl2 := putL_len (b := b1) (o := o2) (n := 2) (by have := HQ.out; have := HZ.out; have := HL1.out; omega) ln
      have hb2 := putL_lb HBB1.out o2 2 ln
      obtain ⟨b2, hbe2⟩ : ∃ b2, putL b1 o2 2 ln = b2 := ⟨_, rfl⟩
      rw [hbe2] at hl2 hb2 ⊢
      have HB2 := Lib.hid hbe2
      obtain ⟨kk, hkk⟩ : ∃ kk, ms.getD i 0 = kk := ⟨_, rfl⟩
      have hk3 : kk ≤ 3 := by
        rw [← hkk]
        rcases Nat.lt_or_ge i ms.length with h | h
        · rw [List.getD, List.getElem?_eq_getElem h]; exact HMS.out _ (List.getElem_mem h)
        · rw [List.getD, List.getElem?_eq_none h]; exact Nat.zero_le _
      have wkk : IntKind.u64.wrap (kk : Int) = (kk : Int) := by rw [IntKind.wrap_u64]; omega
      have HP3 := Lib.hid (fun W => put_list b2 o3 2 kk W hb2 (by have := HL1.out; omega) (by omega) (by omega) (by have := HQ.out; have := HZ.out; have := HL1.out; omega) (by omega))
      replace HO := Lib.hid (HO.out.below hw3)
      replace HBW := Lib.hid (HBW.out.trans (hw3.mono HBW.out.size))
      have HL2 := Lib.hid hl2
      have HBB2 := Lib.hid hb2
      have hmk := HMT.out w3 HBW.out
      have band : bits .and .i64 (kk : Int) 3 = (kk : Int) := by rw [show (3 : Int) = ((2 ^ 2 - 1 : Nat) : Int) from rfl, i64_mask (kk : Int) 2 (by omega)]; omega
      have hkz : ms.length ≤ i → kk = 0 := fun h => by rw [← hkk, List.getD, List.getElem?_eq_none h]; rfl
      have HKK := Lib.hid hkk
      have HKZ := Lib.hid hkz
      clear hl2 hb2 hbe2 hkk hw3 HP2 hkz
      by_cases him : i < ms.length
      · rcases hmk with hmk | ⟨mb, moff, rfl, hmb, hmc⟩
        · rw [hmk] at him; simp at him
        have hmv := hmc i him
        rw [HKK.out] at hmv
        clear hmc
        have dm : decide ((i : Int) < (ms.length : Int)) = true := decide_eq_true (by omega)
        go_wp2_with fail
        refine (HP3.out _).mono ?_
        rintro e w4 ⟨rfl, hw4⟩
        have hl3 := putL_len (b := b2) (o := o3) (n := 2) (by have := HQ.out; have := HZ.out; have := HL1.out; have := HL2.out; omega) kk
        have hb3 := putL_lb HBB2.out o3 2 kk
        obtain ⟨b3, hbe3⟩ : ∃ b3, putL b2 o3 2 kk = b3 := ⟨_, rfl⟩
        rw [hbe3] at hl3 hb3 ⊢
        have HB3 := Lib.hid hbe3
        have HL3 := Lib.hid hl3
        have HBB3 := Lib.hid hb3
        have hlen3 : b3.length ≤ 4000 := by have := HL1.out; have := HL2.out; omega
        have HLN3 := Lib.hid hlen3
        replace HO := Lib.hid (HO.out.below hw4)
        replace HBW := Lib.hid (HBW.out.trans (hw4.mono HBW.out.size))
        clear hw4 HP3 hl3 hb3 hbe3 hlen3
        have hcv := fun (W : World) => run_bytes_of_string (P := Try.prog) W 9 29 5 (txt b3) Try.underlying9 Try.underlying29 Try.underlying5
        obtain ⟨C, hC⟩ : ∃ C, grownCap w4 b3.length 0 5 = C := ⟨_, rfl⟩
        have hcap := grownCap_ge w4 b3.length 0 5
        have hcm := grownCap_le_maxLen w4 b3.length 0 5 (by have := HLN3.out; simp only [maxLen]; omega)
        simp only [maxLen] at hcm
        have hcv4 := hcv w4
        rw [txt_size, hC] at hcv4
        rw [hC] at hcap hcm
        have hrz : (bytesRow (txt b3) C).size = C := by
          have h1 : (txt b3).data.size = (txt b3).size := rfl
          have h2 := txt_size b3
          simp [bytesRow]; omega
        rw [hrz] at hcv4
        have hoc := OwnD.conv w4.drew b3 C C (C + 1) HBB3.out hcap (by omega) (Nat.le_refl _)
        have HOC := Lib.hid (show OwnD (w4.alloc (.cells (bytesRow (txt b3) C) 5 (C, C + 1))).drew w.heap.size w4.heap.size C b3 from hoc.weaken (base' := w.heap.size) HBW.out.size)
        have HBC := Lib.hid (show Below w.heap.size w (w4.alloc (.cells (bytesRow (txt b3) C) 5 (C, C + 1))).drew from (HBW.out.alloc HBW.out.size _).drew)
        have HCV := Lib.hid hcv4
        obtain ⟨bl, off, hAe, hbl, q0, q1⟩ := (HLT.out w4 HBW.out).row hil
        injection hAe with hAe
        injection hAe with hAe1 hAe2
        subst hAe1 hAe2
        rw [HXE.out] at q0
        clear hcv hC hcap hcm hrz hoc q1 hcv4
        have hcv5 := HCV.out
        have HSX := Lib.hid (fun W => src_txt (w := W) x.1 HXO.out.lb)
        have hxl := HXO.out.len
        have hsz1 : (w4.alloc (.cells (bytesRow (txt b3) C) 5 (C, C + 1))).drew.heap.size = w4.heap.size + 1 := by simp [World.drew]
        go_wp2_with (first
          | (at_builtin; refine wpList_appD rfl (.tmp 80) (.tmp 85) 9 rfl (.string (txt x.1)) HOC.out rfl rfl (HSX.out _) HXO.out.lb (by have := HLN3.out; omega) (by rw [hsz1]; have := HBW.out.size; omega) rfl rfl ?_; intro g5 cap5 w5 hown5 hbel5; have HO5 := Lib.hid hown5; have HB5 := Lib.hid hbel5; clear hown5 hbel5)
          | (at_builtin; refine wpList_appD rfl (.tmp 86) (.tmp 87) 29 rfl (.slice (some ⟨w5.heap.size, 0, none⟩) 1 1) (HO5.out.alloc _) (by rw [List.length_append]) (show 1 = [0].length from rfl) (src_zero w5) (fun v hv => by simp at hv; omega) (by have := HLN3.out; omega) (Nat.le_trans (Nat.le_trans HBC.out.size HB5.out.size) (by simp)) rfl rfl ?_; intro g6 cap6 w6 hown6 hbel6; have HO6 := Lib.hid hown6; have HB6 := Lib.hid hbel6; clear hown6 hbel6)
          | fail)
        go_roundw
        case rel =>
          have hl1 := HL1.out
          have hl2 := HL2.out
          have hl3 := HL3.out
          have hs5 := HBC.out.trans HB5.out
          have hlen : (b3 ++ x.1 ++ [0]).length = b3.length + x.1.length + 1 := by simp only [List.length_append, List.length_singleton]
          refine ⟨i + 1, g6, cap6, b3 ++ x.1 ++ [0], by omega, by go_num, by rw [hlen], HO6.out, by rw [hlen]; omega, by rw [hlen]; omega, (hs5.alloc hs5.size _).trans HB6.out, ?_⟩
          have h := HAT.out
          unfold atStep at h
          obtain ⟨a1, a2, a3, a4⟩ := HQ.out
          rw [a1, a2, a3, a4, HB1.out, HLN.out, HB2.out, HKK.out, HB3.out] at h
          exact h
        case measure => simp [intOf]; omega
      · have hk0 := HKZ.out (by omega)
        subst hk0
        have dm : decide ((i : Int) < (ms.length : Int)) = false := decide_eq_false (by omega)
        go_wp2_with fail
        refine (HP3.out _).mono ?_
        rintro e w4 ⟨rfl, hw4⟩
        have hl3 := putL_len (b := b2) (o := o3) (n := 2) (by have := HQ.out; have := HZ.out; have := HL1.out; have := HL2.out; omega) 0
        have hb3 := putL_lb HBB2.out o3 2 0
        obtain ⟨b3, hbe3⟩ : ∃ b3, putL b2 o3 2 0 = b3 := ⟨_, rfl⟩
        rw [hbe3] at hl3 hb3 ⊢
        have HB3 := Lib.hid hbe3
        have HL3 := Lib.hid hl3
        have HBB3 := Lib.hid hb3
        have hlen3 : b3.length ≤ 4000 := by have := HL1.out; have := HL2.out; omega
        have HLN3 := Lib.hid hlen3
        replace HO := Lib.hid (HO.out.below hw4)
        replace HBW := Lib.hid (HBW.out.trans (hw4.mono HBW.out.size))
        clear hw4 HP3 hl3 hb3 hbe3 hlen3
        have hcv := fun (W : World) => run_bytes_of_string (P := Try.prog) W 9 29 5 (txt b3) Try.underlying9 Try.underlying29 Try.underlying5
        obtain ⟨C, hC⟩ : ∃ C, grownCap w4 b3.length 0 5 = C := ⟨_, rfl⟩
        have hcap := grownCap_ge w4 b3.length 0 5
        have hcm := grownCap_le_maxLen w4 b3.length 0 5 (by have := HLN3.out; simp only [maxLen]; omega)
        simp only [maxLen] at hcm
        have hcv4 := hcv w4
        rw [txt_size, hC] at hcv4
        rw [hC] at hcap hcm
        have hrz : (bytesRow (txt b3) C).size = C := by
          have h1 : (txt b3).data.size = (txt b3).size := rfl
          have h2 := txt_size b3
          simp [bytesRow]; omega
        rw [hrz] at hcv4
        have hoc := OwnD.conv w4.drew b3 C C (C + 1) HBB3.out hcap (by omega) (Nat.le_refl _)
        have HOC := Lib.hid (show OwnD (w4.alloc (.cells (bytesRow (txt b3) C) 5 (C, C + 1))).drew w.heap.size w4.heap.size C b3 from hoc.weaken (base' := w.heap.size) HBW.out.size)
        have HBC := Lib.hid (show Below w.heap.size w (w4.alloc (.cells (bytesRow (txt b3) C) 5 (C, C + 1))).drew from (HBW.out.alloc HBW.out.size _).drew)
        have HCV := Lib.hid hcv4
        obtain ⟨bl, off, hAe, hbl, q0, q1⟩ := (HLT.out w4 HBW.out).row hil
        injection hAe with hAe
        injection hAe with hAe1 hAe2
        subst hAe1 hAe2
        rw [HXE.out] at q0
        clear hcv hC hcap hcm hrz hoc q1 hcv4
        have hcv5 := HCV.out
        have HSX := Lib.hid (fun W => src_txt (w := W) x.1 HXO.out.lb)
        have hxl := HXO.out.len
        have hsz1 : (w4.alloc (.cells (bytesRow (txt b3) C) 5 (C, C + 1))).drew.heap.size = w4.heap.size + 1 := by simp [World.drew]
        go_wp2_with (first
          | (at_builtin; refine wpList_appD rfl (.tmp 80) (.tmp 85) 9 rfl (.string (txt x.1)) HOC.out rfl rfl (HSX.out _) HXO.out.lb (by have := HLN3.out; omega) (by rw [hsz1]; have := HBW.out.size; omega) rfl rfl ?_; intro g5 cap5 w5 hown5 hbel5; have HO5 := Lib.hid hown5; have HB5 := Lib.hid hbel5; clear hown5 hbel5)
          | (at_builtin; refine wpList_appD rfl (.tmp 86) (.tmp 87) 29 rfl (.slice (some ⟨w5.heap.size, 0, none⟩) 1 1) (HO5.out.alloc _) (by rw [List.length_append]) (show 1 = [0].length from rfl) (src_zero w5) (fun v hv => by simp at hv; omega) (by have := HLN3.out; omega) (Nat.le_trans (Nat.le_trans HBC.out.size HB5.out.size) (by simp)) rfl rfl ?_; intro g6 cap6 w6 hown6 hbel6; have HO6 := Lib.hid hown6; have HB6 := Lib.hid hbel6; clear hown6 hbel6)
          | fail)
        go_roundw
        case rel =>
          have hl1 := HL1.out
          have hl2 := HL2.out
          have hl3 := HL3.out
          have hs5 := HBC.out.trans HB5.out
          have hlen : (b3 ++ x.1 ++ [0]).length = b3.length + x.1.length + 1 := by simp only [List.length_append, List.length_singleton]
          refine ⟨i + 1, g6, cap6, b3 ++ x.1 ++ [0], by omega, by go_num, by rw [hlen], HO6.out, by rw [hlen]; omega, by rw [hlen]; omega, (hs5.alloc hs5.size _).trans HB6.out, ?_⟩
          have h := HAT.out
          unfold atStep at h
          obtain ⟨a1, a2, a3, a4⟩ := HQ.out
          rw [a1, a2, a3, a4, HB1.out, HLN.out, HB2.out, HKK.out, HB3.out] at h
          exact h
        case measure => simp [intOf]; omega
    · obtain rfl : i = N := by omega
      have hat := HAT.out
      rw [List.drop_eq_nil_of_le (by have := HE.out; omega)] at hat
      simp only [atL] at hat
      subst hat
      go_wp2_with fail
      go_ret
      exact ⟨_, _, rfl, HO.out, HBW.out⟩
end Go.Proofs.Ytbghgjhenahcgaa
