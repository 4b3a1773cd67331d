/- law 16: CpuStack. -/
import Derived.Test.YthbgmlmcjnlopaaMchS
namespace Go.Proofs.Ythbgmlmcjnlopaa
open Go.ChangeShapes Go.WideShapes Go.ChangeAt Go.RowKit
set_option linter.unusedVariables false
set_option linter.unusedSimpArgs false
set_option maxRecDepth 100000

def insPush : InsV := ⟨3, 0, 0, 0, 0, 0, 0⟩
def insPop : InsV := ⟨4, 1, 0, 0, 0, 0, 0⟩
def formPush : Form := ⟨3,0,0,1,80,1,0,0⟩
def formPop : Form := ⟨4,0,0,1,88,1,0,0⟩
theorem tellsPush : Tells formPush insPush := ⟨by decide, rfl, rfl, rfl, by decide, by decide⟩
theorem tellsPop : Tells formPop insPop := ⟨by decide, rfl, rfl, rfl, by decide, by decide⟩
theorem encPush : encM formPush insPush = [80] := by decide
theorem encPop : encM formPop insPop = [89] := by decide
def codS (n i : Nat) : List Int := List.replicate n 80 ++ List.replicate i 89
theorem codS_succ (n i : Nat) : codS n i ++ [89] = codS n (i + 1) := by unfold codS; rw [List.replicate_succ', List.append_assoc]
theorem codS_len (n i : Nat) : (codS n i).length = n + i := by simp [codS]
theorem codS_bd (n i j : Nat) : 0 ≤ litF (codS n i) j ∧ litF (codS n i) j ≤ 255 := Bs.lit (Bs.append (fun b hb => by rw [(List.mem_replicate.mp hb).2]; omega) (fun b hb => by rw [(List.mem_replicate.mp hb).2]; omega)) j
theorem codS_get {n j : Nat} (h : j < 2 * n) : litF (codS n n) j = if j < n then 80 else 89 := by
  unfold codS
  by_cases c : j < n
  · rw [if_pos c, litF_append_left (by simpa using c)]
    simp [litF, c]
  · rw [if_neg c, litF_append_right (by simpa using c), List.length_replicate]
    simp [litF, show j - n < n by omega]
/-- The memory while numbers are pushed and popped. -/
structure StkI (mp : Int → Option Pg) (n : Nat) (Z : Nat → Nat) (i : Nat) : Prop where
  ok : MpOk mp
  p1 : protAt mp 4096 = some 4
  p2 : protAt mp 8192 = some 3
  code : ∀ j : Nat, j < 2 * n → byteAt mp (4096 + j) = if j < n then 80 else 89
  nums : ∀ j : Nat, j < i → numM mp (12288 - 8 * ((j : Int) + 1)) = Z j
theorem StkI.start {mp0 mp1 : Int → Option Pg} {d1 d2 : Nat → Int} (h1 : mp0 4096 = some ⟨4, d1⟩) (h2 : mp0 8192 = some ⟨3, d2⟩) (n : Nat) (hn : n ≤ 100) (Z : Nat → Nat) (hmp : putP mp0 4096 (n + n) (litF (codS n n)) = mp1) (ho : MpOk mp1) : StkI mp1 n Z 0 := by
  have p1 : protAt mp0 4096 = some 4 := by unfold protAt; rw [h1]; rfl
  refine ⟨ho, by rw [← hmp, protAt_put]; exact p1, by rw [← hmp, protAt_put]; unfold protAt; rw [h2]; rfl, fun j hj => ?_, fun j hj => absurd hj (by omega)⟩
  rw [← hmp, byteAt_put (by rw [show (4096 + (j : Int)) - (4096 + (j : Int)) % 4096 = 4096 by omega, p1]; rfl), if_pos (by omega), show (4096 + (j : Int) - 4096).toNat = j by omega]
  exact codS_get hj
namespace StkI
variable {mp : Int → Option Pg} {n : Nat} {Z : Nat → Nat} {i : Nat}
theorem less (h : StkI mp n Z i) {k : Nat} (hk : k ≤ i) : StkI mp n Z k := ⟨h.ok, h.p1, h.p2, h.code, fun j hj => h.nums j (by omega)⟩
theorem fetch (h : StkI mp n Z i) (hn : n ≤ 100) (j : Nat) (hj : j < 2 * n) {ip : Int} (hip : ip = 4096 + j) :
    fetchM mp ip 12 [] = ⟨false, mp, if j < n then insPush else insPop, 1, 0, 0, 0⟩ := by
  subst hip
  have ha : ∀ i : Nat, i < 1 → (askS mp 4 4 1 (4096 + j + i) 1).1 = 0 := fun i hi => by
    rw [ask_ok (p := 4) (by omega) (by omega) (by rw [show (4096 + (j : Int) + i) - (4096 + (j : Int) + i) % 4096 = 4096 by omega]; exact h.p1) (by decide) (by decide) (by omega)]
  have hc := h.code j hj
  by_cases c : j < n
  · rw [if_pos c] at hc ⊢
    refine fetch_tells tellsPush (by omega) (by omega) (by rw [encPush]; exact ha) (by
      rw [encPush]
      intro i hi
      obtain rfl : i = 0 := by have : i < 1 := hi; omega
      rw [show (4096 : Int) + j + (0 : Nat) = 4096 + j by omega, hc]
      rfl)
  · rw [if_neg c] at hc ⊢
    refine fetch_tells tellsPop (by omega) (by omega) (by rw [encPop]; exact ha) (by
      rw [encPop]
      intro i hi
      obtain rfl : i = 0 := by have : i < 1 := hi; omega
      rw [show (4096 : Int) + j + (0 : Nat) = 4096 + j by omega, hc]
      rfl)
theorem ask (h : StkI mp n Z i) {a need kind : Int} (hn : (bits .and .i64 3 need == 0) = false) (h0 : 8192 ≤ a) (h1 : a ≤ 12280) (h8 : a % 8 = 0) : askS mp need kind 8 a 8 = (0, 0, none) :=
  ask_ok (p := 3) (by omega) (by omega) (by rw [show a - a % 4096 = 8192 by omega]; exact h.p2) (by decide) hn (by omega)
theorem page (h : StkI mp n Z i) {a : Int} (h0 : 8192 ≤ a) (h1 : a ≤ 12280) : ∀ j : Nat, j < 8 → (protAt mp ((a + j) - (a + j) % 4096)).isSome = true := fun j hj => by
  rw [show (a + j) - (a + j) % 4096 = 8192 by omega, h.p2]; rfl
/-- A number is pushed. -/
theorem put (h : StkI mp n Z i) (hi : i < n) (hn : n ≤ 100) (hz : Z i < 18446744073709551616) : StkI (putP mp (12288 - 8 * ((i : Int) + 1)) 8 (le8 (Z i))) n Z (i + 1) := by
  refine ⟨h.ok.put _ 8 (fun j => byteOf_ok _ j), by rw [protAt_put]; exact h.p1, by rw [protAt_put]; exact h.p2, fun j hj => ?_, fun j hj => ?_⟩
  · rw [byteAt_put (by rw [show (4096 + (j : Int)) - (4096 + (j : Int)) % 4096 = 4096 by omega, h.p1]; rfl), if_neg (by omega)]
    exact h.code j hj
  · by_cases e : j = i
    · subst e
      exact num_put_same (by omega) (by omega) (h.page (by omega) (by omega))
    · rw [num_put_other (h.page (by omega) (by omega)) (by omega)]
      exact h.nums j (by omega)
end StkI
section
variable {R : Nat → Prop} {w0 w : World} {C M m : Nat} {most : Int} {mp : Int → Option Pg} {s : StV} {fk fa : Int} {n i : Nat} {Z : Nat → Nat}
theorem push_box (h : Box R w0 w C M m most mp s fk fa) (hI : StkI mp n Z i) (hi : i < n) (hn : n ≤ 100) (hz : Z i < 18446744073709551616) (h4 : s.r 4 = 12288 - 8 * (i : Int)) (hip : s.ip = 4096 + i) (h0 : s.r 0 = Z i) :
    Calls Try.prog 17 #[.pointer (some ⟨C, 0, none⟩)] w fun e w' => e = .returned (.tuple #[.int .i64 0, .int .i64 0]) ∧ ∃ mp' s', Box R w0 w' C M m most mp' s' fk fa ∧ StkI mp' n Z (i + 1) ∧ s'.r 4 = 12288 - 8 * ((i : Int) + 1) ∧ s'.ip = 4096 + ((i : Int) + 1) := by
  have hf := hI.fetch hn i (by omega) hip
  rw [if_pos hi] at hf
  have hs : subM ((nextS s 1).r 4) = 12288 - 8 * ((i : Int) + 1) := by
    show subM (s.r 4) = _
    rw [h4]; unfold subM; omega
  have hd : doM insPush (nextS s 1) mp al0 = ⟨true, putP mp (12288 - 8 * ((i : Int) + 1)) 8 (le8 (Z i)), (nextS s 1).setR 4 (12288 - 8 * ((i : Int) + 1)), 0, 0⟩ := by
    show wrM mp (subM ((nextS s 1).r 4)) ((nextS s 1).r 0) (nextS s 1) ((nextS s 1).setR 4 (subM ((nextS s 1).r 4))) = _
    unfold wrM
    rw [hs, hI.ask (by decide) (by omega) (by omega) (by omega), if_pos rfl, show (nextS s 1).r 0 = Z i from h0]
  refine (box_do h al0 hf hd (by decide) (aluD0 (by decide)) (hI.put hi hn hz).ok ((h.sok.next 1).setR (by omega) (by omega))).mono ?_
  rintro e w' ⟨rfl, hb, _⟩
  refine ⟨rfl, _, _, hb, hI.put hi hn hz, rfl, ?_⟩
  show (s.ip + (1 : Nat)) % 18446744073709551616 = _
  rw [hip]; omega
theorem pop_box (h : Box R w0 w C M m most mp s fk fa) (hI : StkI mp n Z (i + 1)) (hi : i < n) (hn : n ≤ 100) (hz : Z i < 18446744073709551616) (h4 : s.r 4 = 12288 - 8 * ((i : Int) + 1)) (hip : s.ip = 4096 + ((n : Int) + (n - (i + 1)))) :
    Calls Try.prog 17 #[.pointer (some ⟨C, 0, none⟩)] w fun e w' => e = .returned (.tuple #[.int .i64 0, .int .i64 0]) ∧ ∃ s', Box R w0 w' C M m most mp s' fk fa ∧ StkI mp n Z i ∧ s'.r 4 = 12288 - 8 * (i : Int) ∧ s'.ip = 4096 + ((n : Int) + (n - i)) ∧ s'.r 1 = Z i := by
  have hf := hI.fetch hn (n + (n - (i + 1))) (by omega) (ip := s.ip) (by omega)
  rw [if_neg (by omega)] at hf
  have hs : addM ((nextS s 1).r 4) = 12288 - 8 * (i : Int) := by
    show addM (s.r 4) = _
    rw [h4]; unfold addM; omega
  have hd : doM insPop (nextS s 1) mp al0 = ⟨true, mp, ((nextS s 1).setR 4 (12288 - 8 * (i : Int))).setR 1 (Z i), 0, 0⟩ := by
    show rdM mp ((nextS s 1).r 4) (nextS s 1) (fun v => ((nextS s 1).setR 4 (addM ((nextS s 1).r 4))).setR 1 v) = _
    unfold rdM
    rw [hs, show (nextS s 1).r 4 = 12288 - 8 * ((i : Int) + 1) from h4, hI.ask (by decide) (by omega) (by omega) (by omega), if_pos rfl, hI.nums i (by omega)]
  refine (box_do h al0 hf hd (by decide) (aluD0 (by decide)) hI.ok (((h.sok.next 1).setR (by omega) (by omega)).setR (by omega) (by omega))).mono ?_
  rintro e w' ⟨rfl, hb, _⟩
  refine ⟨rfl, _, hb, hI.less (by omega), rfl, ?_, rfl⟩
  show (s.ip + (1 : Nat)) % 18446744073709551616 = _
  rw [hip]; omega
end
end Go.Proofs.Ythbgmlmcjnlopaa
