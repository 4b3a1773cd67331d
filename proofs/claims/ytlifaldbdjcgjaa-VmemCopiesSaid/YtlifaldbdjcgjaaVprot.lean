/- Memory of pages: Protect at one page. -/
import Derived.Test.YtlifaldbdjcgjaaVput
namespace Go.Proofs.Ytlifaldbdjcgjaa
open Go.ChangeShapes Go.WideShapes Go.ChangeAt Go.RowKit
open Go.Maps (Keyed)
set_option linter.unusedVariables false
set_option linter.unusedSimpArgs false

set_option maxRecDepth 100000 in
set_option maxHeartbeats 1000000 in
theorem protect_one (R : Nat → Prop) (w : World) (M m : Nat) (most : Int) (mp : Int → Option Pg) (a prot : Int) (g : Pg) (h0 : 0 ≤ a) (hr : RowOk a 1) (hp0 : 0 ≤ prot) (hp1 : prot ≤ 15) (hg : mp a = some g) (H : MemAt R w M m most mp) :
    Calls Try.prog 32 #[.pointer (some ⟨M, 0, none⟩), .int .u64 a, .int .i64 1, .int .i64 prot] w fun e w' => e = .returned (.bool true) ∧ MemAt R w' M m most (upd mp a (some ⟨prot, g.dat⟩)) ∧ Kept R w w' := by
  obtain ⟨r1, r2, r3, r4⟩ := hr
  have HR := Lib.hid (show RowOk a ((1 : Nat) : Int) from ⟨r1, r2, r3, r4⟩)
  have HM := Lib.hid H
  have HG := Lib.hid hg
  have HF : Hid (∀ i : Nat, i < 1 → mp (a + i * 4096) ≠ none) := fun i hi => by
    obtain rfl : i = 0 := by omega
    simp only [Int.natCast_zero, Int.zero_mul, Int.add_zero]
    rw [hg]; simp
  have HR0 : Hid (∀ k, R k → k < w.heap.size) := by obtain ⟨bm, f, S, _, _, _, h⟩ := H; exact h
  have ha : a < 140737488355328 := by omega
  clear r1 H hg
  go_enter Try.func32, Try.ntmps32
  go_wp2_with (first | (go_at_call 35; refine (protOk_yes prot _ hp0 hp1).mono ?_; rintro e w' ⟨rfl, rfl⟩) | (go_at_call 37; refine (mapped_yes R _ M m most mp a 1 h0 HR.out HF.out HM.out).mono ?_; rintro e w1 ⟨rfl, hk⟩; have HK := Lib.hid hk; clear hk))
  have HM1 : Hid (MemAt R w1 M m most mp) := by obtain ⟨k, rfl⟩ := HK.out; exact HM.out.drewN k
  have HK1 : Hid (Kept R w w1) := by obtain ⟨k, rfl⟩ := HK.out; exact ⟨rfl, rfl, rfl, Nat.le_refl _, fun _ _ => rfl⟩
  clear HK HM
  go_loopw [21] (fun o wr => (o = .int .i64 0 ∧ MemAt R wr M m most mp ∧ Kept R w wr) ∨ (o = .int .i64 1 ∧ MemAt R wr M m most (upd mp a (some ⟨prot, g.dat⟩)) ∧ Kept R w wr)) (fun o _ => 1 - (intOf o).toNat)
  case atStart => exact Or.inl ⟨rfl, HM1.out, HK1.out⟩
  case round =>
    clear HM1 HK1
    rcases hrel with ⟨rfl, hm, hk⟩ | ⟨rfl, hm, hk⟩
    · have HKr := Lib.hid hk
      clear hk
      obtain ⟨bm, f, S, hRs⟩ := hm
      have HRs := Lib.hid hRs
      have HS := Lib.hid S
      have k1 := S.c1
      obtain ⟨B, hB, ho, hl⟩ := look_some S HG.out h0 (by omega)
      have HF := Lib.hid hB
      have HO := Lib.hid ho
      have HD : Hid (Own wr.drew B 4097 (pgF g)) := ho
      have hl1 : (Instr.lookup 63 (.map (some bm)) (.int .u64 a) false).run Try.prog wr.drew = .ok (.pointer (some ⟨B, 0, none⟩)) wr.drew := hl 1
      have hc0 : wr.drew.cell? ⟨B, 0, none⟩ = some (.int .i64 g.prot) := ho.cell (i := 0) (by omega)
      have hz0 : wr.drew.frozen? ⟨B, 0, none⟩ = false := ho.frozen (i := 0) (by omega)
      clear hB ho hRs S hl
      go_wp2_with fail
      go_region_law (go_simp; go_at_call 36; refine (place_any a 0 _ h0 ha (by omega) (by omega)).mono ?_; simp only [Int.zero_mul, Int.add_zero]; rintro e w3 ⟨rfl, rfl⟩)
      all_goals
        have hg4 : wr.drew.grownBy (wr.drew.setCell ⟨B, 0, none⟩ (.int .i64 prot)) (some B) := only_setCell (World.grownBy.refl _ _) (Or.inl rfl) _
        have ho4 : Own (wr.drew.setCell ⟨B, 0, none⟩ (.int .i64 prot)) B 4097 (pgF ⟨prot, g.dat⟩) := (HD.out.set (i := 0) (by omega) (.int .i64 prot)).congr fun q hq => by
          unfold pgF
          by_cases c0 : q = 0
          · rw [if_pos c0, if_pos c0]
          · rw [if_neg c0, if_neg c0, if_neg c0]
        have hS2 := MemIn.turned (HS.out.drewN 1) HF.out HG.out hg4 ho4
        have HM4 : Hid (MemAt R (wr.drew.setCell ⟨B, 0, none⟩ (.int .i64 prot)) M m most (upd mp a (some ⟨prot, g.dat⟩))) := ⟨bm, f, hS2, HRs.out.1, HRs.out.2.1, HRs.out.2.2.1, fun k hk => Nat.lt_of_lt_of_le (HRs.out.2.2.2 k hk) hg4.size⟩
        have HK4 := Lib.hid ((HKr.out.trans (Kept.drewN R wr 1)).grown hg4 HR0.out (fun k hk hr => by injection hk with hk; subst hk; exact HRs.out.2.2.1 _ _ HF.out hr))
        clear hS2 hg4 ho4
        try simp only [Act.put, List.getElem_toArray, List.getElem_cons_succ, List.getElem_cons_zero, List.setIfInBounds_toArray, List.set_cons_succ, List.set_cons_zero]
        go_wp2
        go_roundw
        case rel => exact Or.inr ⟨by go_num, HM4.out, HK4.out⟩
        case measure => simp [intOf]
    · have HMr := Lib.hid hm
      have HKr := Lib.hid hk
      clear hm hk
      go_wp2
      go_ret
      exact ⟨rfl, HMr.out, HKr.out⟩
end Go.Proofs.Ytlifaldbdjcgjaa
