/- law 16: CpuStack. · law 16: CpuStack, the walk. -/
import Derived.Test.YthbgmlmcjnlopaaMchS
namespace Go.Proofs.Ythbgmlmcjnlopaa
open Go.ChangeShapes Go.WideShapes Go.ChangeAt Go.RowKit
set_option linter.unusedVariables false
set_option linter.unusedSimpArgs false
set_option maxRecDepth 100000

def insPush : InsV := ⟨3, 0, 0, 0, 0, 0, 0⟩
def insPop : InsV := ⟨4, 1, 0, 0, 0, 0, 0⟩
def formPush : Form := ⟨3,0,0,1,80,1,0,0⟩
def formPop : Form := ⟨4,0,0,1,88,1,0,0⟩
theorem tellsPush : Tells formPush insPush := ⟨by decide, rfl, rfl, rfl, by decide, by decide⟩
theorem tellsPop : Tells formPop insPop := ⟨by decide, rfl, rfl, rfl, by decide, by decide⟩
theorem encPush : encM formPush insPush = [80] := by decide
theorem encPop : encM formPop insPop = [89] := by decide
def codS (n i : Nat) : List Int := List.replicate n 80 ++ List.replicate i 89
theorem codS_succ (n i : Nat) : codS n i ++ [89] = codS n (i + 1) := by unfold codS; rw [List.replicate_succ', List.append_assoc]
theorem codS_len (n i : Nat) : (codS n i).length = n + i := by simp [codS]
theorem codS_bd (n i j : Nat) : 0 ≤ litF (codS n i) j ∧ litF (codS n i) j ≤ 255 := Bs.lit (Bs.append (fun b hb => by rw [(List.mem_replicate.mp hb).2]; omega) (fun b hb => by rw [(List.mem_replicate.mp hb).2]; omega)) j
theorem codS_get {n j : Nat} (h : j < 2 * n) : litF (codS n n) j = if j < n then 80 else 89 := by
  unfold codS
  by_cases c : j < n
  · rw [if_pos c, litF_append_left (by simpa using c)]
    simp [litF, c]
  · rw [if_neg c, litF_append_right (by simpa using c), List.length_replicate]
    simp [litF, show j - n < n by omega]
/-- The memory while numbers are pushed and popped. -/
structure StkI (mp : Int → Option Pg) (n : Nat) (Z : Nat → Nat) (i : Nat) : Prop where
  ok : MpOk mp
  p1 : protAt mp 4096 = some 4
  p2 : protAt mp 8192 = some 3
  code : ∀ j : Nat, j < 2 * n → byteAt mp (4096 + j) = if j < n then 80 else 89
  nums : ∀ j : Nat, j < i → numM mp (12288 - 8 * ((j : Int) + 1)) = Z j
theorem StkI.start {mp0 mp1 : Int → Option Pg} {d1 d2 : Nat → Int} (h1 : mp0 4096 = some ⟨4, d1⟩) (h2 : mp0 8192 = some ⟨3, d2⟩) (n : Nat) (hn : n ≤ 100) (Z : Nat → Nat) (hmp : putP mp0 4096 (n + n) (litF (codS n n)) = mp1) (ho : MpOk mp1) : StkI mp1 n Z 0 := by
  have p1 : protAt mp0 4096 = some 4 := by unfold protAt; rw [h1]; rfl
  refine ⟨ho, by rw [← hmp, protAt_put]; exact p1, by rw [← hmp, protAt_put]; unfold protAt; rw [h2]; rfl, fun j hj => ?_, fun j hj => absurd hj (by omega)⟩
  rw [← hmp, byteAt_put (by rw [show (4096 + (j : Int)) - (4096 + (j : Int)) % 4096 = 4096 by omega, p1]; rfl), if_pos (by omega), show (4096 + (j : Int) - 4096).toNat = j by omega]
  exact codS_get hj
namespace StkI
variable {mp : Int → Option Pg} {n : Nat} {Z : Nat → Nat} {i : Nat}
theorem less (h : StkI mp n Z i) {k : Nat} (hk : k ≤ i) : StkI mp n Z k := ⟨h.ok, h.p1, h.p2, h.code, fun j hj => h.nums j (by omega)⟩
theorem fetch (h : StkI mp n Z i) (hn : n ≤ 100) (j : Nat) (hj : j < 2 * n) {ip : Int} (hip : ip = 4096 + j) :
    fetchM mp ip 12 [] = ⟨false, mp, if j < n then insPush else insPop, 1, 0, 0, 0⟩ := by
  subst hip
  have ha : ∀ i : Nat, i < 1 → (askS mp 4 4 1 (4096 + j + i) 1).1 = 0 := fun i hi => by
    rw [ask_ok (p := 4) (by omega) (by omega) (by rw [show (4096 + (j : Int) + i) - (4096 + (j : Int) + i) % 4096 = 4096 by omega]; exact h.p1) (by decide) (by decide) (by omega)]
  have hc := h.code j hj
  by_cases c : j < n
  · rw [if_pos c] at hc ⊢
    refine fetch_tells tellsPush (by omega) (by omega) (by rw [encPush]; exact ha) (by
      rw [encPush]
      intro i hi
      obtain rfl : i = 0 := by have : i < 1 := hi; omega
      rw [show (4096 : Int) + j + (0 : Nat) = 4096 + j by omega, hc]
      rfl)
  · rw [if_neg c] at hc ⊢
    refine fetch_tells tellsPop (by omega) (by omega) (by rw [encPop]; exact ha) (by
      rw [encPop]
      intro i hi
      obtain rfl : i = 0 := by have : i < 1 := hi; omega
      rw [show (4096 : Int) + j + (0 : Nat) = 4096 + j by omega, hc]
      rfl)
theorem ask (h : StkI mp n Z i) {a need kind : Int} (hn : (bits .and .i64 3 need == 0) = false) (h0 : 8192 ≤ a) (h1 : a ≤ 12280) (h8 : a % 8 = 0) : askS mp need kind 8 a 8 = (0, 0, none) :=
  ask_ok (p := 3) (by omega) (by omega) (by rw [show a - a % 4096 = 8192 by omega]; exact h.p2) (by decide) hn (by omega)
theorem page (h : StkI mp n Z i) {a : Int} (h0 : 8192 ≤ a) (h1 : a ≤ 12280) : ∀ j : Nat, j < 8 → (protAt mp ((a + j) - (a + j) % 4096)).isSome = true := fun j hj => by
  rw [show (a + j) - (a + j) % 4096 = 8192 by omega, h.p2]; rfl
/-- A number is pushed. -/
theorem put (h : StkI mp n Z i) (hi : i < n) (hn : n ≤ 100) (hz : Z i < 18446744073709551616) : StkI (putP mp (12288 - 8 * ((i : Int) + 1)) 8 (le8 (Z i))) n Z (i + 1) := by
  refine ⟨h.ok.put _ 8 (fun j => byteOf_ok _ j), by rw [protAt_put]; exact h.p1, by rw [protAt_put]; exact h.p2, fun j hj => ?_, fun j hj => ?_⟩
  · rw [byteAt_put (by rw [show (4096 + (j : Int)) - (4096 + (j : Int)) % 4096 = 4096 by omega, h.p1]; rfl), if_neg (by omega)]
    exact h.code j hj
  · by_cases e : j = i
    · subst e
      exact num_put_same (by omega) (by omega) (h.page (by omega) (by omega))
    · rw [num_put_other (h.page (by omega) (by omega)) (by omega)]
      exact h.nums j (by omega)
end StkI
section
variable {R : Nat → Prop} {w0 w : World} {C M m : Nat} {most : Int} {mp : Int → Option Pg} {s : StV} {fk fa : Int} {n i : Nat} {Z : Nat → Nat}
theorem push_box (h : Box R w0 w C M m most mp s fk fa) (hI : StkI mp n Z i) (hi : i < n) (hn : n ≤ 100) (hz : Z i < 18446744073709551616) (h4 : s.r 4 = 12288 - 8 * (i : Int)) (hip : s.ip = 4096 + i) (h0 : s.r 0 = Z i) :
    Calls Try.prog 17 #[.pointer (some ⟨C, 0, none⟩)] w fun e w' => e = .returned (.tuple #[.int .i64 0, .int .i64 0]) ∧ ∃ mp' s', Box R w0 w' C M m most mp' s' fk fa ∧ StkI mp' n Z (i + 1) ∧ s'.r 4 = 12288 - 8 * ((i : Int) + 1) ∧ s'.ip = 4096 + ((i : Int) + 1) := by
  have hf := hI.fetch hn i (by omega) hip
  rw [if_pos hi] at hf
  have hs : subM ((nextS s 1).r 4) = 12288 - 8 * ((i : Int) + 1) := by
    show subM (s.r 4) = _
    rw [h4]; unfold subM; omega
  have hd : doM insPush (nextS s 1) mp al0 = ⟨true, putP mp (12288 - 8 * ((i : Int) + 1)) 8 (le8 (Z i)), (nextS s 1).setR 4 (12288 - 8 * ((i : Int) + 1)), 0, 0⟩ := by
    show wrM mp (subM ((nextS s 1).r 4)) ((nextS s 1).r 0) (nextS s 1) ((nextS s 1).setR 4 (subM ((nextS s 1).r 4))) = _
    unfold wrM
    rw [hs, hI.ask (by decide) (by omega) (by omega) (by omega), if_pos rfl, show (nextS s 1).r 0 = Z i from h0]
  refine (box_do h al0 hf hd (by decide) (aluD0 (by decide)) (hI.put hi hn hz).ok ((h.sok.next 1).setR (by omega) (by omega))).mono ?_
  rintro e w' ⟨rfl, hb, _⟩
  refine ⟨rfl, _, _, hb, hI.put hi hn hz, rfl, ?_⟩
  show (s.ip + (1 : Nat)) % 18446744073709551616 = _
  rw [hip]; omega
theorem pop_box (h : Box R w0 w C M m most mp s fk fa) (hI : StkI mp n Z (i + 1)) (hi : i < n) (hn : n ≤ 100) (hz : Z i < 18446744073709551616) (h4 : s.r 4 = 12288 - 8 * ((i : Int) + 1)) (hip : s.ip = 4096 + ((n : Int) + (n - (i + 1)))) :
    Calls Try.prog 17 #[.pointer (some ⟨C, 0, none⟩)] w fun e w' => e = .returned (.tuple #[.int .i64 0, .int .i64 0]) ∧ ∃ s', Box R w0 w' C M m most mp s' fk fa ∧ StkI mp n Z i ∧ s'.r 4 = 12288 - 8 * (i : Int) ∧ s'.ip = 4096 + ((n : Int) + (n - i)) ∧ s'.r 1 = Z i := by
  have hf := hI.fetch hn (n + (n - (i + 1))) (by omega) (ip := s.ip) (by omega)
  rw [if_neg (by omega)] at hf
  have hs : addM ((nextS s 1).r 4) = 12288 - 8 * (i : Int) := by
    show addM (s.r 4) = _
    rw [h4]; unfold addM; omega
  have hd : doM insPop (nextS s 1) mp al0 = ⟨true, mp, ((nextS s 1).setR 4 (12288 - 8 * (i : Int))).setR 1 (Z i), 0, 0⟩ := by
    show rdM mp ((nextS s 1).r 4) (nextS s 1) (fun v => ((nextS s 1).setR 4 (addM ((nextS s 1).r 4))).setR 1 v) = _
    unfold rdM
    rw [hs, show (nextS s 1).r 4 = 12288 - 8 * ((i : Int) + 1) from h4, hI.ask (by decide) (by omega) (by omega) (by omega), if_pos rfl, hI.nums i (by omega)]
  refine (box_do h al0 hf hd (by decide) (aluD0 (by decide)) hI.ok (((h.sok.next 1).setR (by omega) (by omega)).setR (by omega) (by omega))).mono ?_
  rintro e w' ⟨rfl, hb, _⟩
  refine ⟨rfl, _, hb, hI.less (by omega), rfl, ?_, rfl⟩
  show (s.ip + (1 : Nat)) % 18446744073709551616 = _
  rw [hip]; omega
end
end Go.Proofs.Ythbgmlmcjnlopaa
namespace Go.Proofs.Ythbgmlmcjnlopaa
open Go.ChangeShapes Go.WideShapes Go.ChangeAt Go.RowKit
set_option linter.unusedVariables false
set_option linter.unusedSimpArgs false
set_option maxRecDepth 100000

def NumsU (w : World) (A : Option Addr) (n : Nat) (f : Nat → Nat) : Prop := n = 0 ∨ ∃ b off, A = some ⟨b, off, none⟩ ∧ b < w.heap.size ∧ ∀ i, i < n → w.cell? ⟨b, off + i, none⟩ = some (.int .u64 (f i))
theorem NumsU.kept {w w' : World} {A : Option Addr} {n : Nat} {f : Nat → Nat} (h : NumsU w A n f) (hk : Kept (· < w.heap.size) w w') : NumsU w' A n f := by
  rcases h with h | ⟨b, off, hA, hlt, hc⟩
  · exact .inl h
  · exact .inr ⟨b, off, hA, Nat.lt_of_lt_of_le hlt hk.size, fun i hi => (World.cell?_of_block (hk.block b hlt)).trans (hc i hi)⟩
set_option maxHeartbeats 4000000 in
theorem stack_core (w : World) (A : Option Addr) (l cap : Nat) (Z : Nat → Nat) (hl : l ≤ 9223372036854775807) (hZ : ∀ i, Z i < 18446744073709551616) (hA : NumsU w A l Z) :
    Calls Try.prog 7 #[.slice A l cap] w fun e w' => e = .returned (.bool true) ∧ Below w.heap.size w w' := by
  have HZ := Lib.hid hZ
  have HA := Lib.hid hA
  have HN := Lib.hid (mem0_new w 2 (by omega) (by omega))
  clear hZ hA
  go_enter Try.func7, Try.ntmps7
  go_wp2_with fail
  refine HN.out.mono ?_
  rintro e w1 ⟨M, rfl, h1⟩
  have H1 := Lib.hid h1
  clear h1 HN
  go_wp2_with fail
  refine (mem0_map H1.out 4096 4 1 (by omega) ⟨by decide, by omega, by omega, by omega⟩ (by omega) (by omega) (fun i _ => rfl) (by omega) (by omega)).mono ?_
  rintro e w2 ⟨rfl, h2⟩
  have H2 := Lib.hid h2
  clear h2 H1
  go_wp2_with fail
  refine (mem0_map H2.out 8192 3 1 (by omega) ⟨by decide, by omega, by omega, by omega⟩ (by omega) (by omega) (fun i hi => by (obtain rfl : i = 0 := by omega); kernel_rfl) (by omega) (by omega)).mono ?_
  rintro e w3 ⟨rfl, h3⟩
  have H3 := Lib.hid h3
  clear h3 H2
  go_wp2_with fail
  case' inr => obtain ⟨n, hn, hn1, hn2⟩ : ∃ n : Nat, (l : Int) = n ∧ n ≤ 100 ∧ n ≤ l := ⟨l, rfl, by omega, by omega⟩
  case' inl => obtain ⟨n, hn, hn1, hn2⟩ : ∃ n : Nat, (100 : Int) = n ∧ n ≤ 100 ∧ n ≤ l := ⟨100, rfl, by omega, by omega⟩
  all_goals
    have HMP := Lib.hid (show setP (setP noM 4096 4 1) 8192 3 1 4096 = some ⟨4, fun _ => 0⟩ ∧ setP (setP noM 4096 4 1) 8192 3 1 8192 = some ⟨3, fun _ => 0⟩ from ⟨by kernel_rfl, by kernel_rfl⟩)
    generalize setP (setP noM 4096 4 1) 8192 3 1 = mp0 at *
    have HB3 := Lib.hid (BufL.start H3.out)
    generalize w3.heap.size = B at *
    clear H3
    go_loopw [5, 6] (fun v5 v6 wr => ∃ i : Nat, i ≤ n ∧ v6 = .int .i64 i ∧ BufL w wr M (0 + 1 + 1) 2 mp0 B v5 (List.replicate i 80)) (fun _ v6 _ => n - (intOf v6).toNat)
    case atStart => exact ⟨0, by omega, rfl, HB3.out⟩
    case round =>
      obtain ⟨i, hi, rfl, hbu⟩ := hrel
      have HBU := Lib.hid hbu
      clear hbu HB3
      by_cases hlt : i < n
      · have HSRC := Lib.hid (src_new wr [80] 1)
        have HLE := Lib.hid (show (List.replicate i (80 : Int)).length + [(80 : Int)].length ≤ 140737488355328 from by simp; omega)
        have HBA := Lib.hid (HBU.out.alloc (.cells #[.int .u8 80] 5))
        go_wp2_with (at_builtin; refine wpList_appBL rfl (.tmp 36) (.tmp 37) 24 rfl B _ (List.replicate i 80) rfl HBA.out.own _ rfl [80] HSRC.out HLE.out HBA.out.hB.2 ?_; intro A5 cap5 w5 hown5 hg5 hat5; have HBU5 := Lib.hid (HBA.out.app hown5 hg5 hat5); clear hown5 hg5 hat5)
        go_roundw
        case rel => exact ⟨i + 1, by omega, by go_num, by have h5 := HBU5.out; rw [List.length_replicate] at h5; rw [List.replicate_succ']; exact h5⟩
        case measure => simp [intOf]; omega
      · obtain rfl : i = n := by omega
        go_wp2_with fail
        go_loopw [5, 7] (fun v5 v6 wr => ∃ k : Nat, k ≤ i ∧ v6 = .int .i64 k ∧ BufL w wr M (0 + 1 + 1) 2 mp0 B v5 (codS i k)) (fun _ v6 _ => i - (intOf v6).toNat)
        case atStart => exact ⟨0, by omega, rfl, by unfold codS; rw [List.replicate_zero, List.append_nil]; exact HBU.out⟩
        case round =>
          obtain ⟨k, hk, rfl, hbu⟩ := hrel
          have HBV := Lib.hid hbu
          clear hbu HBU
          by_cases hlt : k < i
          · have HSRC := Lib.hid (src_new wr [89] 1)
            have HLE := Lib.hid (show (codS i k).length + [(89 : Int)].length ≤ 140737488355328 from by unfold codS; simp; omega)
            have HBA := Lib.hid (HBV.out.alloc (.cells #[.int .u8 89] 5))
            go_wp2_with (at_builtin; refine wpList_appBL rfl (.tmp 44) (.tmp 45) 24 rfl B _ (codS i k) rfl HBA.out.own _ rfl [89] HSRC.out HLE.out HBA.out.hB.2 ?_; intro A5 cap5 w5 hown5 hg5 hat5; have HBU5 := Lib.hid (HBA.out.app hown5 hg5 hat5); clear hown5 hg5 hat5)
            go_roundw
            case rel => exact ⟨k + 1, by omega, by go_num, by have h5 := HBU5.out; rw [codS_succ] at h5; exact h5⟩
            case measure => simp [intOf]; omega
          · obtain rfl : k = i := by omega
            go_wp2_with fail
            obtain ⟨A4, cap4, rfl, hc1, hc2⟩ := HBV.out.shape
            rw [codS_len] at hc1 ⊢
            obtain ⟨R, h4, hs4⟩ := HBV.out.src
            rw [codS_len] at hs4
            have H4 := Lib.hid h4
            have HS4 := Lib.hid hs4
            clear h4 hs4 HBV
            refine (mem0_poke H4.out 4096 A4 (k + k) cap4 (litF (codS k k)) (by omega) (by omega) (by omega) (by omega) (by omega) (fun j j0 j1 => ?_) HS4.out (codS_bd k k)).mono ?_
            · rw [show (4096 : Int) + j - (4096 + j) % 4096 = 4096 by omega, HMP.out.1]
              exact fun h => nomatch h
            rintro e w5 ⟨rfl, h5, _⟩
            obtain ⟨mp1, hmp1⟩ : ∃ mp1, putP mp0 4096 (k + k) (litF (codS k k)) = mp1 := ⟨_, rfl⟩
            rw [hmp1] at h5
            have HI := Lib.hid (StkI.start HMP.out.1 HMP.out.2 k hn1 Z hmp1 h5.ok)
            have H5 := Lib.hid h5
            clear h5 hmp1 H4 HS4 HMP
            go_wp2_with fail
            refine (mem0_cpu H5.out).mono ?_
            rintro e w6 ⟨C, _, _, rfl, h6⟩
            have H6 := Lib.hid h6
            clear h6 H5
            go_wp2_with fail
            refine (box_jump H6.out 4096 (by omega) (by omega)).mono ?_
            rintro e w7 ⟨rfl, h7, _⟩
            have H7 := Lib.hid h7
            clear h7 H6
            go_wp2_with fail
            refine (box_put H7.out 4 (by omega) 12288 (by omega) (by omega)).mono ?_
            rintro e w8 ⟨rfl, h8, _⟩
            have H8 := Lib.hid h8
            clear h8 H7
            go_wp2_with fail
            have hr9 : ∃ (R : Nat → Prop) (mp : Int → Option Pg) (s : StV), Box R w w8 C M (0 + 1 + 1) 2 mp s 0 0 ∧ StkI mp k Z 0 ∧ s.r 4 = 12288 - 8 * ((0 : Nat) : Int) ∧ s.ip = 4096 + ((0 : Nat) : Int) := ⟨_, _, _, H8.out, HI.out, rfl, rfl⟩
            have HR9 := Lib.hid hr9
            clear hr9 HI H8
            go_loopw [9] (fun v9 wr => ∃ i : Nat, i ≤ k ∧ v9 = .int .i64 i ∧ ∃ (R : Nat → Prop) (mp : Int → Option Pg) (s : StV), Box R w wr C M (0 + 1 + 1) 2 mp s 0 0 ∧ StkI mp k Z i ∧ s.r 4 = 12288 - 8 * (i : Int) ∧ s.ip = 4096 + (i : Int)) (fun v9 _ => k - (intOf v9).toNat)
            case atStart => exact ⟨0, by omega, rfl, HR9.out⟩
            case round =>
              clear HR9
              obtain ⟨i, hi, rfl, R, mp, s, hbx, hst, h4, hip⟩ := hrel
              have HBX := Lib.hid hbx
              have HST := Lib.hid hst
              have H4 := Lib.hid (And.intro h4 hip)
              clear hbx hst h4 hip
              by_cases hlt : i < k
              · have hz := HZ.out i
                obtain ⟨b, off, rfl, hcl⟩ : ∃ b off, A = some ⟨b, off, none⟩ ∧ wr.cell? ⟨b, off + i, none⟩ = some (.int .u64 (Z i)) := by
                  rcases HA.out.kept HBX.out.kept with h | ⟨b, off, h1, _, h2⟩
                  · omega
                  · exact ⟨b, off, h1, h2 i (by omega)⟩
                go_wp2_with fail
                refine (box_put HBX.out 0 (by omega) (Z i) (by omega) (by omega)).mono ?_
                rintro e w9 ⟨rfl, h9, _⟩
                have H9 := Lib.hid h9
                clear h9 HBX hcl
                go_wp2_with fail
                refine (push_box H9.out HST.out hlt hn1 hz H4.out.1 H4.out.2 rfl).mono ?_
                rintro e w10 ⟨rfl, mp', s', h10, hst10, h4', hip'⟩
                have H10 := Lib.hid h10
                have HST10 := Lib.hid hst10
                have H4' := Lib.hid (And.intro h4' hip')
                clear h10 hst10 h4' hip' H9 HST
                go_wp2_with fail
                refine (box_reg H10.out 4 (by omega) _ H4'.out.1).mono ?_
                rintro e w11 ⟨rfl, rfl⟩
                go_wp2_with fail
                go_roundw
                case rel => exact ⟨i + 1, by omega, by go_num, _, _, _, H10.out, HST10.out, by rw [H4'.out.1]; omega, by rw [H4'.out.2]; omega⟩
                case measure => simp [intOf]; omega
              · obtain rfl : i = k := by omega
                go_wp2_with fail
                go_loopw [12] (fun v12 wr => ∃ (c : Nat) (x : Int), c ≤ i ∧ v12 = .int .i64 x ∧ x = (c : Int) - 1 ∧ ∃ (R : Nat → Prop) (mp : Int → Option Pg) (s : StV), Box R w wr C M (0 + 1 + 1) 2 mp s 0 0 ∧ StkI mp i Z c ∧ s.r 4 = 12288 - 8 * (c : Int) ∧ s.ip = 4096 + ((i : Int) + (i - c))) (fun v12 _ => (intOf v12 + 1).toNat)
                case atStart => exact ⟨i, _, by omega, rfl, rfl, _, _, _, HBX.out, HST.out, H4.out.1, by rw [H4.out.2]; omega⟩
                case round =>
                  clear HBX HST H4
                  obtain ⟨c, x, hc, rfl, hx, R, mp, s, hbx, hst, h4, hip⟩ := hrel
                  have HBX := Lib.hid hbx
                  have HST := Lib.hid hst
                  have H4 := Lib.hid (And.intro h4 hip)
                  clear hbx hst h4 hip
                  by_cases hlt : 0 < c
                  · obtain ⟨j, rfl⟩ : ∃ j, c = j + 1 := ⟨c - 1, by omega⟩
                    obtain rfl : x = (j : Int) := by omega
                    clear hx
                    have hz := HZ.out j
                    obtain ⟨b, off, rfl, hcl⟩ : ∃ b off, A = some ⟨b, off, none⟩ ∧ wr.cell? ⟨b, off + j, none⟩ = some (.int .u64 (Z j)) := by
                      rcases HA.out.kept HBX.out.kept with h | ⟨b, off, h1, _, h2⟩
                      · omega
                      · exact ⟨b, off, h1, h2 j (by omega)⟩
                    clear hcl
                    go_wp2_with fail
                    refine (pop_box HBX.out HST.out (by omega) hn1 hz (by have := H4.out.1; omega) (by have := H4.out.2; omega)).mono ?_
                    rintro e w10 ⟨rfl, s', h10, hst10, h4', hip', h1'⟩
                    have hcl : w10.cell? ⟨b, off + j, none⟩ = some (.int .u64 (Z j)) := by
                      rcases HA.out.kept h10.kept with h | ⟨b', off', h1, _, h2⟩
                      · omega
                      · injection h1 with h1
                        injection h1 with h1 h3
                        subst h1 h3
                        exact h2 j (by omega)
                    have H10 := Lib.hid h10
                    have HST10 := Lib.hid hst10
                    have H4' := Lib.hid (And.intro h4' (And.intro hip' h1'))
                    clear h10 hst10 h4' hip' h1' HBX HST
                    go_upto_region 32 with (fail)
                    have HRG := Lib.hid (fun W (hW : Below w10.heap.size w10 W) => show Calls Try.prog 18 #[.pointer (some ⟨C, 0, none⟩), .int .i64 1] W fun e w' => e = .returned (.int .u64 (Z j)) ∧ W = w' from by
                      refine (box_reg (H10.out.below hW) 1 (by omega) _ H4'.out.2.2).mono ?_
                      rintro e w' ⟨rfl, rfl⟩
                      exact ⟨rfl, rfl⟩)
                    have HCL := Lib.hid (fun W (hW : Below w10.heap.size w10 W) => show W.cell? ⟨b, off + j, none⟩ = some (.int .u64 (Z j)) from (hW.cell (World.block_lt_of_cell? w10 _ hcl)).trans hcl)
                    clear hcl
                    have hjl : j < l := by omega
                    have hji : j < i := by omega
                    have HS := Lib.hid (show Below w10.heap.size w10 w10.drew from (Below.refl _ _).drew)
                    refine wp_region_noPanic ?_
                    refine wp_region_K (fun W => Below w10.heap.size w10 W) (fun _ => True) 99 (by kernel_rfl) ?_
                    refine wpAnyK_take (i := 0) (oi := ?_) (v := ?_) ?_ (by kernel_rfl) (by kernel_rfl) (by kernel_rfl) (fun _ _ _ h => h) (by decide) ?_ HS.out (fun _ => trivial) ?_
                    rotate_left 2
                    · (simp only [List.getElem?_toArray, List.getElem?_cons_succ, List.getElem?_cons_zero]; rfl)
                    · (first | exact Or.inr ⟨by rfl, rfl⟩ | (refine Or.inl ⟨by rfl, ?_⟩; intro W hSw; clear hSw; go_simp; try with_reducible rfl))
                    try simp only [Act.put, List.setIfInBounds_toArray, List.set_cons_zero, List.set_cons_succ]
                    refine wpAnyK_take (i := 1) (oi := ?_) (v := ?_) ?_ (by kernel_rfl) (by kernel_rfl) (by kernel_rfl) (fun _ _ _ h => h) (by decide) ?_ HS.out (fun _ => trivial) ?_
                    rotate_left 2
                    · (simp only [List.getElem?_toArray, List.getElem?_cons_succ, List.getElem?_cons_zero]; rfl)
                    · (first | exact Or.inr ⟨by rfl, rfl⟩ | (refine Or.inl ⟨by rfl, ?_⟩; intro W hSw; clear hSw; go_simp; try with_reducible rfl))
                    try simp only [Act.put, List.setIfInBounds_toArray, List.set_cons_zero, List.set_cons_succ]
                    refine wpAnyK_take (i := 2) (oi := ?_) (v := ?_) ?_ (by kernel_rfl) (by kernel_rfl) (by kernel_rfl) (fun _ _ _ h => h) (by decide) ?_ HS.out (fun _ => trivial) ?_
                    rotate_left 2
                    · (simp only [List.getElem?_toArray, List.getElem?_cons_succ, List.getElem?_cons_zero]; rfl)
                    · (first | exact Or.inr ⟨by rfl, rfl⟩ | (refine Or.inl ⟨by rfl, ?_⟩; intro W hSw; clear hSw; go_simp; try with_reducible rfl))
                    try simp only [Act.put, List.setIfInBounds_toArray, List.set_cons_zero, List.set_cons_succ]
                    refine wpAnyK_take (i := 3) (oi := ?_) (v := ?_) ?_ (by kernel_rfl) (by kernel_rfl) (by kernel_rfl) (fun _ _ _ h => h) (by decide) ?_ HS.out (fun _ => trivial) ?_
                    rotate_left 2
                    · (simp only [List.getElem?_toArray, List.getElem?_cons_succ, List.getElem?_cons_zero]; rfl)
                    · (first | exact Or.inr ⟨by rfl, rfl⟩ | (refine Or.inl ⟨by rfl, ?_⟩; intro W hSw; clear hSw; go_simp; try with_reducible rfl))
                    try simp only [Act.put, List.setIfInBounds_toArray, List.set_cons_zero, List.set_cons_succ]
                    refine wpAnyK_takeQ (i := 4) (oi := ?_) (v := .int .u64 (Z j)) ?_ (by kernel_rfl) (by kernel_rfl) (by kernel_rfl) (fun _ _ _ h => h) (by decide) ?_ HS.out (fun _ => trivial) ?_
                    rotate_left 1
                    · (simp only [List.getElem?_toArray, List.getElem?_cons_succ, List.getElem?_cons_zero]; rfl)
                    · refine ⟨by rfl, fun W hW => ⟨18, #[.pointer (some ⟨C, 0, none⟩), .int .i64 1], ?_, HRG.out W hW⟩⟩
                      first | kernel_rfl | (go_simp; done) | rfl
                    try simp only [Act.put, List.setIfInBounds_toArray, List.set_cons_zero, List.set_cons_succ]
                    refine wpAnyK_take (i := 5) (oi := ?_) (v := ?_) ?_ (by kernel_rfl) (by kernel_rfl) (by kernel_rfl) (fun _ _ _ h => h) (by decide) ?_ HS.out (fun _ => trivial) ?_
                    rotate_left 2
                    · (simp only [List.getElem?_toArray, List.getElem?_cons_succ, List.getElem?_cons_zero]; rfl)
                    · (first | exact Or.inr ⟨by rfl, rfl⟩ | (refine Or.inl ⟨by rfl, ?_⟩; intro W hSw; clear hSw; go_simp; try with_reducible rfl))
                    try simp only [Act.put, List.setIfInBounds_toArray, List.set_cons_zero, List.set_cons_succ]
                    refine wpAnyK_take (i := 6) (oi := ?_) (v := ?_) ?_ (by kernel_rfl) (by kernel_rfl) (by kernel_rfl) (fun _ _ _ h => h) (by decide) ?_ HS.out (fun _ => trivial) ?_
                    rotate_left 2
                    · (simp only [List.getElem?_toArray, List.getElem?_cons_succ, List.getElem?_cons_zero]; rfl)
                    · (first | exact Or.inr ⟨by rfl, rfl⟩ | (refine Or.inl ⟨by rfl, ?_⟩; intro W hSw; clear hSw; go_simp; try with_reducible rfl))
                    try simp only [Act.put, List.setIfInBounds_toArray, List.set_cons_zero, List.set_cons_succ]
                    refine wpAnyK_take (i := 7) (oi := ?_) (v := ?_) ?_ (by kernel_rfl) (by kernel_rfl) (by kernel_rfl) (fun _ _ _ h => h) (by decide) ?_ HS.out (fun _ => trivial) ?_
                    rotate_left 2
                    · (simp only [List.getElem?_toArray, List.getElem?_cons_succ, List.getElem?_cons_zero]; rfl)
                    · (first | exact Or.inr ⟨by rfl, rfl⟩ | (refine Or.inl ⟨by rfl, ?_⟩; intro W hSw; clear hSw; go_simp; try with_reducible rfl))
                    try simp only [Act.put, List.setIfInBounds_toArray, List.set_cons_zero, List.set_cons_succ]
                    refine wpAnyK_take (i := 8) (oi := ?_) (v := ?_) ?_ (by kernel_rfl) (by kernel_rfl) (by kernel_rfl) (fun _ _ _ h => h) (by decide) ?_ HS.out (fun _ => trivial) ?_
                    rotate_left 2
                    · (simp only [List.getElem?_toArray, List.getElem?_cons_succ, List.getElem?_cons_zero]; rfl)
                    · (first | exact Or.inr ⟨by rfl, rfl⟩ | (refine Or.inl ⟨by rfl, ?_⟩; intro W hSw; have hq := HCL.out W hSw; clear hSw; go_simp; try with_reducible rfl))
                    try simp only [Act.put, List.setIfInBounds_toArray, List.set_cons_zero, List.set_cons_succ]
                    refine wpAnyK_take (i := 9) (oi := ?_) (v := ?_) ?_ (by kernel_rfl) (by kernel_rfl) (by kernel_rfl) (fun _ _ _ h => h) (by decide) ?_ HS.out (fun _ => trivial) ?_
                    rotate_left 2
                    · (simp only [List.getElem?_toArray, List.getElem?_cons_succ, List.getElem?_cons_zero]; rfl)
                    · (first | exact Or.inr ⟨by rfl, rfl⟩ | (refine Or.inl ⟨by rfl, ?_⟩; intro W hSw; clear hSw; go_simp; try with_reducible rfl))
                    try simp only [Act.put, List.setIfInBounds_toArray, List.set_cons_zero, List.set_cons_succ]
                    refine wpAnyK_take (i := 10) (oi := ?_) (v := ?_) ?_ (by kernel_rfl) (by kernel_rfl) (by kernel_rfl) (fun _ _ _ h => h) (by decide) ?_ HS.out (fun _ => trivial) ?_
                    rotate_left 2
                    · (simp only [List.getElem?_toArray, List.getElem?_cons_succ, List.getElem?_cons_zero]; rfl)
                    · (first | exact Or.inr ⟨by rfl, rfl⟩ | (refine Or.inl ⟨by rfl, ?_⟩; intro W hSw; clear hSw; go_simp; try with_reducible rfl))
                    try simp only [Act.put, List.setIfInBounds_toArray, List.set_cons_zero, List.set_cons_succ]
                    refine wpAnyK_done (by kernel_rfl) ?_ _
                    refine NoPanic.normal ?_
                    have HS2 := Lib.hid (H10.out.below HS.out)
                    go_wp2_with fail
                    go_roundw
                    case rel => exact ⟨j, _, by omega, rfl, rfl, _, _, _, HS2.out, HST10.out, H4'.out.1, H4'.out.2.1⟩
                    case measure => first | (simp [intOf]; done) | (simp [intOf]; omega)
                  · obtain rfl : c = 0 := by omega
                    obtain rfl : x = -1 := by omega
                    clear hx
                    go_wp2_with fail
                    refine (box_reg HBX.out 4 (by omega) 12288 (by rw [H4.out.1]; omega)).mono ?_
                    rintro e w12 ⟨rfl, rfl⟩
                    go_wp2_with fail
                    refine (box_ip HBX.out (4096 + 2 * (i : Int)) (by rw [H4.out.2]; omega)).mono ?_
                    rintro e w12 ⟨rfl, rfl⟩
                    go_wp2_with fail
                    refine (awake16_any w12).mono ?_
                    rintro e w14 ⟨rfl, hb14⟩
                    have H14 := Lib.hid (HBX.out.ends.trans (hb14.mono HBX.out.ends.size))
                    go_wp2
                    go_ret
                    exact ⟨rfl, H14.out⟩
end Go.Proofs.Ythbgmlmcjnlopaa
