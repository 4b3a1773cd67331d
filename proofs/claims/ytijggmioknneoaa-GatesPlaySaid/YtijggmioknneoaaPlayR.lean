/- law 23: GatesPlay: the walk of the law. -/
import Derived.Test.YtijggmioknneoaaPlayQ
namespace Go.Proofs.Ytijggmioknneoaa
open Go.ChangeShapes Go.WideShapes Go.ChangeAt Go.RowKit
set_option linter.unusedVariables false
set_option linter.unusedSimpArgs false
set_option maxRecDepth 100000

theorem shapeTop : bodyP = (headS bodyP).seq ((headS (dropS 1 bodyP)).seq ((headS (dropS 2 bodyP)).seq ((headS (dropS 3 bodyP)).seq ((headS (dropS 4 bodyP)).seq ((headS (dropS 5 bodyP)).seq (((headS (headS (dropS 6 bodyP))).seq (.block 0 (.loop ((headS loopP).seq ((Code.block 1 bodyR).seq (dropS 2 loopP)))))).seq (dropS 7 bodyP))))))) := by kernel_rfl
set_option maxHeartbeats 8000000 in
theorem play_core (w : World) (A : Option Addr) (L : List OpV) (l cap : Nat) (hLl : L.length = l) (hl : l ≤ 9223372036854775807) (hSL : SlT opC 5 w A L) (hOK : ∀ o ∈ L, OpOk o) :
    Calls Try.prog 3 #[.slice A l cap] w fun e w' => e = .returned (.bool true) ∧ Below w.heap.size w w' := by
  have HNS := Lib.hid (newSlots_any (· < w.heap.size) w (fun _ h => h))
  have hz := zero128
  have HL := Lib.hid hl
  have HSL := Lib.hid (And.intro hLl (And.intro hSL hOK))
  clear hl hLl hSL hOK
  have HRD := Lib.hid play_round
  go_enter Try.func3, Try.ntmps3
  conv => arg 2; change bodyP
  rw [shapeTop]
  generalize bodyR = SR at *
  conv => arg 2; arg 1; whnf
  conv => arg 2; arg 2; arg 1; whnf
  conv => arg 2; arg 2; arg 2; arg 1; whnf
  conv => arg 2; arg 2; arg 2; arg 2; arg 1; whnf
  conv => arg 2; arg 2; arg 2; arg 2; arg 2; arg 1; whnf
  conv => arg 2; arg 2; arg 2; arg 2; arg 2; arg 2; arg 1; whnf
  conv => arg 2; arg 2; arg 2; arg 2; arg 2; arg 2; arg 2; arg 2; whnf
  conv => arg 2; arg 2; arg 2; arg 2; arg 2; arg 2; arg 2; arg 1; arg 1; whnf
  conv => arg 2; arg 2; arg 2; arg 2; arg 2; arg 2; arg 2; arg 1; arg 2; arg 2; arg 1; arg 1; whnf
  conv => arg 2; arg 2; arg 2; arg 2; arg 2; arg 2; arg 2; arg 1; arg 2; arg 2; arg 1; arg 2; arg 2; whnf
  go_wp2_with fail
  refine HNS.out.mono ?_
  rintro e w1 ⟨s, rfl, h1, k1⟩
  have H1 := Lib.hid h1
  have K1 := Lib.hid k1
  clear h1 k1 HNS
  go_wp2_with fail
  refine (newMemP_any w1).mono ?_
  rintro e w2 ⟨M, rfl, b2⟩
  have B2 := Lib.hid b2
  clear b2
  go_wp2_with fail
  refine (awake23_any w2).mono ?_
  rintro e w3 ⟨rfl, b3⟩
  have B3 := Lib.hid (B2.out.trans (b3.mono B2.out.size))
  clear b3 B2
  go_wp2_with fail
  refine (newCpu_any w3 _ ⟨_, rfl⟩).mono ?_
  rintro e w4 ⟨rfl, b4, c4⟩
  have P0 := Lib.hid (Play.start 32 H1.out K1.out B3.out b4 c4)
  clear b4 c4 H1 K1 B3
  go_wp2_with fail
  clear hz
  generalize hC : w3.heap.size = C at *
  generalize hB : w4.heap.size = B at *
  generalize hw5 : w4.alloc (.cells (Array.replicate 128 (.int .u64 0)) 32) = w5 at *
  clear hC hB hw5
  refine wp_loopS 246 [0, 3, 4, 5, 6] (fun n' sl' wr => ∃ (i n : Nat) (v : Int → Nat → Int) (u r : Nat → Int), n' = 80 - i ∧ sl' 7 = .int .i64 i ∧ i ≤ 80 ∧ i ≤ l ∧ n ≤ i ∧ Agrees v u ∧ Play (fun k => k < w.heap.size ∨ k = C ∨ k = B) w wr s C B n v u r) 80 ⟨rfl, rfl, rfl⟩ ⟨0, 0, _, _, _, rfl, rfl, by omega, by omega, by omega, fun _ _ _ _ => rfl, P0.out⟩ ?_
  intro gk a' wr hS hR J1 K1 hJ1 hK1
  have HJ1 := Lib.hid hJ1
  clear hJ1 P0
  obtain ⟨u3, hu, rfl⟩ := lopen_0_3_4_5_6 hS _ _ _ _ _ rfl
  rw [hu] at hR
  clear hu hS
  obtain ⟨i, n, v, u, r, hgk, h7, hi, hil, hn, ha, hp⟩ := hR
  rw [h7]
  subst hgk
  clear h7
  have HA := Lib.hid ha
  have HP := Lib.hid hp
  clear ha hp
  by_cases hlt : i < l ∧ i < 80
  · obtain ⟨h1, h2⟩ := hlt
    obtain ⟨hLl, hSL, hOK⟩ := HSL.out
    have hiL : i < L.length := by omega
    obtain ⟨b, off, rfl, hb, hra⟩ := opRow hSL (i := i) hiL
    have hok := hOK _ (List.getElem_mem hiL)
    obtain ⟨o, ho⟩ : ∃ o, o = L[i]'hiL := ⟨_, rfl⟩
    rw [← ho] at hra hok
    have HRW := Lib.hid (rangeAt_kept hra HP.out.kept hb)
    have HOK := Lib.hid hok
    clear hra hok ho hSL hOK hLl hiL
    have h1' : (i : Int) < l := by omega
    have h2' : (i : Int) < 80 := by omega
    go_wp2_with fail
    refine HRD.out (fun k => k < w.heap.size ∨ k = C ∨ k = B) w wr s C B n b off l cap i v u r o _ HP HA (by omega) hb HRW HOK h1 HL.out _ _ ⟨rfl, rfl, rfl⟩ ?_
    intro e a' w' n' v' u' r' he ha' hn' hp' hA'
    obtain ⟨u4, rfl⟩ := topen_0_3_4_5_6_7 ha'
    clear ha'
    have HA2 := Lib.hid hA'
    have HP2 := Lib.hid hp'
    clear hA' hp'
    rcases he with rfl | rfl
    all_goals
      go_wp2_with fail
      refine Handed.intro (80 - (i + 1)) (by omega) ?_
      refine HJ1.out _ _ _ ⟨⟨rfl, rfl, rfl⟩, i + 1, n', v', u', r', rfl, by first | rfl | go_num, by omega, by omega, by omega, HA2.out, HP2.out⟩
  · rcases (show ¬ i < l ∨ (i < l ∧ ¬ i < 80) by omega) with c | ⟨c, c2⟩
    all_goals
      clear hlt
      go_wp2_with fail
      refine (do_say_nil wr C s 1 r HP.out.cpu).mono ?_
      rintro e w9 ⟨rfl, b9⟩
      have P9 := Lib.hid (HP.out.below b9)
      clear b9
      go_wp2
      go_ret
      exact ⟨rfl, P9.out.kept.below (fun k hk => hk)⟩
end Go.Proofs.Ytijggmioknneoaa
