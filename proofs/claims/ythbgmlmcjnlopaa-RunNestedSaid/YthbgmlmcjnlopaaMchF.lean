/- package cpu: calls. -/
import Derived.Test.YthbgmlmcjnlopaaMchE
namespace Go.Proofs.Ythbgmlmcjnlopaa
open Go.ChangeShapes Go.WideShapes Go.ChangeAt Go.RowKit
set_option linter.unusedVariables false
set_option linter.unusedSimpArgs false
set_option maxRecDepth 100000

theorem Ctx.own {R : Nat → Prop} {w : World} {C B M m : Nat} {most : Int} {mp : Int → Option Pg} {s0 : StV} {fk fa : Int} {s : StV} (h : Ctx R w C B M m most mp s0 fk fa s) {w' : World} (hb : Below w.heap.size w w') : Ctx (fun k => R k ∨ (w.heap.size ≤ k ∧ k < w'.heap.size)) w' C B M m most mp s0 fk fa s := by
  have h1 := h.below hb
  exact ⟨h.mem.more hb, h1.cpu, h1.st, .inl h.rC, .inl h.rB, h.ne, h.ok, h.sok⟩

set_option maxHeartbeats 4000000 in
theorem doCall_yes (R : Nat → Prop) (w : World) (C B M m : Nat) (most : Int) (mp : Int → Option Pg) (s0 : StV) (fk fa : Int) (s : StV) (a b al cc im : Nat) (dp : Int) (H : Ctx R w C B M m most mp s0 fk fa s) (hf : (askS mp 2 3 8 (subM (s.r 4)) 8).1 = 0) :
    Calls Try.prog 63 #[.pointer (some ⟨C, 0, none⟩), .agg #[.int .i64 17, .int .i64 a, .int .i64 b, .int .i64 al, .int .i64 cc, .int .u64 im, .int .i64 dp], .pointer (some ⟨B, 0, none⟩)] w fun e w' => DoY R w B M m most (putP mp (subM (s.r 4)) 8 (le8 s.ip)) ((s.setR 4 (subM (s.r 4))).setIp (nearM s (⟨17, a, b, al, cc, im, dp⟩ : InsV))) e w' := by
  have HF := Lib.hid hf
  have HSZ := Lib.hid H.mem.sz
  have HX := Lib.hid H
  have hlB := H.mem.sz B H.rB
  have hlC := H.mem.sz C H.rC
  clear H hf 
  go_enter Try.func63, Try.ntmps63
  go_upto_region 1 with (fail)
  obtain ⟨w1, hw1⟩ : ∃ w1, w.alloc (.cells #[.int .i64 17, .int .i64 a, .int .i64 b, .int .i64 al, .int .i64 cc, .int .u64 im, .int .i64 dp] 27) = w1 := ⟨_, rfl⟩
  obtain ⟨D, hD⟩ : ∃ D, w.heap.size = D := ⟨_, rfl⟩
  have HX1 := Lib.hid (show Ctx (fun k => R k ∨ k = D) w1 C B M m most mp s0 fk fa s from by rw [← hw1, ← hD]; exact HX.out.boxed _)
  have HD1 := Lib.hid (show w1.heap[D]? = some (.cells #[.int .i64 17, .int .i64 a, .int .i64 b, .int .i64 al, .int .i64 cc, .int .u64 im, .int .i64 dp] 27 (0, 0)) from by rw [← hw1, ← hD]; exact heap_alloc_new w _)
  have HBK := Lib.hid (show Kept R w w1 from by rw [← hw1]; exact (Kept.refl R w).alloc HSZ.out _)
  have HDB := Lib.hid (show D ≠ B ∧ D ≠ C ∧ ¬ R D from ⟨by omega, by omega, fun h => by have := HSZ.out D h; omega⟩)
  refine (congrArg _ hw1).mpr ?_
  rw [hD]
  clear hw1 hD hlB hlC HX HSZ
  have c0 : w1.cell? ⟨D, 0, none⟩ = some (.int .i64 17) := by rw [cell_of_row' HD1.out]; rfl
  have c1 : w1.cell? ⟨D, 1, none⟩ = some (.int .i64 a) := by rw [cell_of_row' HD1.out]; rfl
  have c2 : w1.cell? ⟨D, 2, none⟩ = some (.int .i64 b) := by rw [cell_of_row' HD1.out]; rfl
  have c3 : w1.cell? ⟨D, 3, none⟩ = some (.int .i64 al) := by rw [cell_of_row' HD1.out]; rfl
  have c4 : w1.cell? ⟨D, 4, none⟩ = some (.int .i64 cc) := by rw [cell_of_row' HD1.out]; rfl
  have c5 : w1.cell? ⟨D, 5, none⟩ = some (.int .u64 im) := by rw [cell_of_row' HD1.out]; rfl
  have c6 : w1.cell? ⟨D, 6, none⟩ = some (.int .i64 dp) := by rw [cell_of_row' HD1.out]; rfl
  have HNB := Lib.hid (nearM_bd s (⟨17, a, b, al, cc, im, dp⟩ : InsV))
  have HN := Lib.hid (show Calls Try.prog 66 #[.pointer (some ⟨B, 0, none⟩), .agg #[.int .i64 17, .int .i64 a, .int .i64 b, .int .i64 al, .int .i64 cc, .int .u64 im, .int .i64 dp]] w1 fun e w' => e = .returned (.int .u64 (nearM s (⟨17, a, b, al, cc, im, dp⟩ : InsV))) ∧ Below w1.heap.size w1 w' from near_any w1 B s (⟨17, a, b, al, cc, im, dp⟩ : InsV) HX1.out.st)
  obtain ⟨nr, hnr⟩ : ∃ nr, nearM s (⟨17, a, b, al, cc, im, dp⟩ : InsV) = nr := ⟨_, rfl⟩
  have HNR := Lib.hid hnr
  rw [hnr] at HNB HN
  clear hnr
  go_wp2_with fail
  refine HN.out.mono ?_
  rintro e w2 ⟨rfl, hb2⟩
  have HB2 := Lib.hid hb2
  clear hb2 HN c0 c1 c2 c3 c4 c5 c6
  obtain ⟨w3, hw3⟩ : ∃ w3, w2.alloc (.cells #[.int .u64 nr] 22) = w3 := ⟨_, rfl⟩
  obtain ⟨E, hE⟩ : ∃ E, w2.heap.size = E := ⟨_, rfl⟩
  have hb3 : Below w1.heap.size w1 w3 := by rw [← hw3]; exact HB2.out.alloc HB2.out.size _
  have hE3 : E < w3.heap.size := by rw [← hw3, ← hE]; simp
  have hE1 : w1.heap.size ≤ E := by rw [← hE]; exact HB2.out.size
  have HX3 := Lib.hid (HX1.out.own hb3)
  have HER := Lib.hid (show ((R E ∨ E = D) ∨ (w1.heap.size ≤ E ∧ E < w3.heap.size)) from .inr ⟨hE1, hE3⟩)
  have HEC := Lib.hid (show w3.cell? ⟨E, 0, none⟩ = some (.int .u64 nr) ∧ w3.frozen? ⟨E, 0, none⟩ = false from by rw [← hw3, ← hE]; exact ⟨by simp [go_sem], by simp [go_sem]⟩)
  have HD3 := Lib.hid (show w3.heap[D]? = some (.cells #[.int .i64 17, .int .i64 a, .int .i64 b, .int .i64 al, .int .i64 cc, .int .u64 im, .int .i64 dp] 27 (0, 0)) from (hb3.block D (lt_of_row' HD1.out)).trans HD1.out)
  have HEN := Lib.hid (show E ≠ B ∧ E ≠ C ∧ ¬ R E ∧ E ≠ D from by
    have h1 := HX1.out.mem.sz B (.inl (by rcases HX1.out.rB with h | h; exact h; exact absurd h.symm HDB.out.1))
    have h2 := HX1.out.mem.sz C (.inl (by rcases HX1.out.rC with h | h; exact h; exact absurd h.symm HDB.out.2.1))
    have h3 := lt_of_row' HD1.out
    exact ⟨by omega, by omega, fun h => by have := HX1.out.mem.sz E (.inl h); omega, by omega⟩)
  have HBK3 := Lib.hid (HBK.out.trans (Kept.of_below hb3 (fun k hk => HX1.out.mem.sz k (.inl hk))))
  clear hb3 hE3 hE1
  have c0 : w3.cell? ⟨D, 0, none⟩ = some (.int .i64 17) := by rw [cell_of_row' HD3.out]; rfl
  go_upto_region 9 with (fail)
  clear hw3 hE
  have ci := HX3.out.st.ipc.1
  go_wp2_with fail
  refine (push_yes _ w3 C B M m most mp s0 fk fa s s.ip HX1.out.sok.ip.1 HX1.out.sok.ip.2 HX3.out HF.out).mono ?_
  intro e w7 hY
  have HY := Lib.hid (hY.back HBK3.out (fun k hk => .inl (.inl hk)))
  have HEC7 := Lib.hid (show w7.cell? ⟨E, 0, none⟩ = some (.int .u64 nr) from (hY.kept.cell (p := ⟨E, 0, none⟩) ⟨HER.out, HEN.out.1⟩).trans HEC.out.1)
  have HRB := Lib.hid (show R B from by
    rcases HX1.out.rB with h | h
    · exact h
    · exact absurd h.symm HDB.out.1)
  obtain rfl := hY.e
  clear hY ci
  have ce := HEC7.out
  have cz := HY.out.st.ipc
  go_wp2_with fail
  go_ret
  rw [HNR.out]
  exact ⟨rfl, HY.out.mem.setFar HRB.out _, HY.out.st.setIp _, HY.out.kept.trans (keptB w7 B 16 _)⟩

set_option maxHeartbeats 4000000 in
theorem doCall_no (R : Nat → Prop) (w : World) (C B M m : Nat) (most : Int) (mp : Int → Option Pg) (s0 : StV) (fk fa : Int) (s : StV) (a b al cc im : Nat) (dp : Int) (H : Ctx R w C B M m most mp s0 fk fa s) (hf : (askS mp 2 3 8 (subM (s.r 4)) 8).1 ≠ 0) :
    Calls Try.prog 63 #[.pointer (some ⟨C, 0, none⟩), .agg #[.int .i64 17, .int .i64 a, .int .i64 b, .int .i64 al, .int .i64 cc, .int .u64 im, .int .i64 dp], .pointer (some ⟨B, 0, none⟩)] w fun e w' => DoN R w C B M m most (askM mp (askS mp 2 3 8 (subM (s.r 4)) 8)) s0 (askS mp 2 3 8 (subM (s.r 4)) 8).1 (askS mp 2 3 8 (subM (s.r 4)) 8).2.1 e w' := by
  have HF := Lib.hid hf
  have HSZ := Lib.hid H.mem.sz
  have HX := Lib.hid H
  have hlB := H.mem.sz B H.rB
  have hlC := H.mem.sz C H.rC
  clear H hf 
  go_enter Try.func63, Try.ntmps63
  go_upto_region 1 with (fail)
  obtain ⟨w1, hw1⟩ : ∃ w1, w.alloc (.cells #[.int .i64 17, .int .i64 a, .int .i64 b, .int .i64 al, .int .i64 cc, .int .u64 im, .int .i64 dp] 27) = w1 := ⟨_, rfl⟩
  obtain ⟨D, hD⟩ : ∃ D, w.heap.size = D := ⟨_, rfl⟩
  have HX1 := Lib.hid (show Ctx (fun k => R k ∨ k = D) w1 C B M m most mp s0 fk fa s from by rw [← hw1, ← hD]; exact HX.out.boxed _)
  have HD1 := Lib.hid (show w1.heap[D]? = some (.cells #[.int .i64 17, .int .i64 a, .int .i64 b, .int .i64 al, .int .i64 cc, .int .u64 im, .int .i64 dp] 27 (0, 0)) from by rw [← hw1, ← hD]; exact heap_alloc_new w _)
  have HBK := Lib.hid (show Kept R w w1 from by rw [← hw1]; exact (Kept.refl R w).alloc HSZ.out _)
  have HDB := Lib.hid (show D ≠ B ∧ D ≠ C ∧ ¬ R D from ⟨by omega, by omega, fun h => by have := HSZ.out D h; omega⟩)
  refine (congrArg _ hw1).mpr ?_
  rw [hD]
  clear hw1 hD hlB hlC HX HSZ
  have c0 : w1.cell? ⟨D, 0, none⟩ = some (.int .i64 17) := by rw [cell_of_row' HD1.out]; rfl
  have c1 : w1.cell? ⟨D, 1, none⟩ = some (.int .i64 a) := by rw [cell_of_row' HD1.out]; rfl
  have c2 : w1.cell? ⟨D, 2, none⟩ = some (.int .i64 b) := by rw [cell_of_row' HD1.out]; rfl
  have c3 : w1.cell? ⟨D, 3, none⟩ = some (.int .i64 al) := by rw [cell_of_row' HD1.out]; rfl
  have c4 : w1.cell? ⟨D, 4, none⟩ = some (.int .i64 cc) := by rw [cell_of_row' HD1.out]; rfl
  have c5 : w1.cell? ⟨D, 5, none⟩ = some (.int .u64 im) := by rw [cell_of_row' HD1.out]; rfl
  have c6 : w1.cell? ⟨D, 6, none⟩ = some (.int .i64 dp) := by rw [cell_of_row' HD1.out]; rfl
  have HNB := Lib.hid (nearM_bd s (⟨17, a, b, al, cc, im, dp⟩ : InsV))
  have HN := Lib.hid (show Calls Try.prog 66 #[.pointer (some ⟨B, 0, none⟩), .agg #[.int .i64 17, .int .i64 a, .int .i64 b, .int .i64 al, .int .i64 cc, .int .u64 im, .int .i64 dp]] w1 fun e w' => e = .returned (.int .u64 (nearM s (⟨17, a, b, al, cc, im, dp⟩ : InsV))) ∧ Below w1.heap.size w1 w' from near_any w1 B s (⟨17, a, b, al, cc, im, dp⟩ : InsV) HX1.out.st)
  obtain ⟨nr, hnr⟩ : ∃ nr, nearM s (⟨17, a, b, al, cc, im, dp⟩ : InsV) = nr := ⟨_, rfl⟩
  have HNR := Lib.hid hnr
  rw [hnr] at HNB HN
  clear hnr
  go_wp2_with fail
  refine HN.out.mono ?_
  rintro e w2 ⟨rfl, hb2⟩
  have HB2 := Lib.hid hb2
  clear hb2 HN c0 c1 c2 c3 c4 c5 c6
  obtain ⟨w3, hw3⟩ : ∃ w3, w2.alloc (.cells #[.int .u64 nr] 22) = w3 := ⟨_, rfl⟩
  obtain ⟨E, hE⟩ : ∃ E, w2.heap.size = E := ⟨_, rfl⟩
  have hb3 : Below w1.heap.size w1 w3 := by rw [← hw3]; exact HB2.out.alloc HB2.out.size _
  have hE3 : E < w3.heap.size := by rw [← hw3, ← hE]; simp
  have hE1 : w1.heap.size ≤ E := by rw [← hE]; exact HB2.out.size
  have HX3 := Lib.hid (HX1.out.own hb3)
  have HER := Lib.hid (show ((R E ∨ E = D) ∨ (w1.heap.size ≤ E ∧ E < w3.heap.size)) from .inr ⟨hE1, hE3⟩)
  have HEC := Lib.hid (show w3.cell? ⟨E, 0, none⟩ = some (.int .u64 nr) ∧ w3.frozen? ⟨E, 0, none⟩ = false from by rw [← hw3, ← hE]; exact ⟨by simp [go_sem], by simp [go_sem]⟩)
  have HD3 := Lib.hid (show w3.heap[D]? = some (.cells #[.int .i64 17, .int .i64 a, .int .i64 b, .int .i64 al, .int .i64 cc, .int .u64 im, .int .i64 dp] 27 (0, 0)) from (hb3.block D (lt_of_row' HD1.out)).trans HD1.out)
  have HEN := Lib.hid (show E ≠ B ∧ E ≠ C ∧ ¬ R E ∧ E ≠ D from by
    have h1 := HX1.out.mem.sz B (.inl (by rcases HX1.out.rB with h | h; exact h; exact absurd h.symm HDB.out.1))
    have h2 := HX1.out.mem.sz C (.inl (by rcases HX1.out.rC with h | h; exact h; exact absurd h.symm HDB.out.2.1))
    have h3 := lt_of_row' HD1.out
    exact ⟨by omega, by omega, fun h => by have := HX1.out.mem.sz E (.inl h); omega, by omega⟩)
  have HBK3 := Lib.hid (HBK.out.trans (Kept.of_below hb3 (fun k hk => HX1.out.mem.sz k (.inl hk))))
  clear hb3 hE3 hE1
  have c0 : w3.cell? ⟨D, 0, none⟩ = some (.int .i64 17) := by rw [cell_of_row' HD3.out]; rfl
  go_upto_region 9 with (fail)
  clear hw3 hE
  have ci := HX3.out.st.ipc.1
  go_wp2_with fail
  refine (push_no _ w3 C B M m most mp s0 fk fa s s.ip HX1.out.sok.ip.1 HX1.out.sok.ip.2 HX3.out HF.out).mono ?_
  intro e w7 hY
  have HY := Lib.hid (hY.back HBK3.out (fun k hk => .inl (.inl hk)))
  obtain rfl := hY.e
  clear hY ci
  go_wp2
  go_ret
  exact HY.out

set_option maxHeartbeats 4000000 in
theorem doCallR_rno (R : Nat → Prop) (w : World) (C B M m : Nat) (most : Int) (mp : Int → Option Pg) (s0 : StV) (fk fa : Int) (s : StV) (a b al cc im : Nat) (dp : Int) (H : Ctx R w C B M m most mp s0 fk fa s) (hl : (askS mp 1 2 8 (nearM s (⟨21, a, b, al, cc, im, dp⟩ : InsV)) 8).1 ≠ 0) :
    Calls Try.prog 63 #[.pointer (some ⟨C, 0, none⟩), .agg #[.int .i64 21, .int .i64 a, .int .i64 b, .int .i64 al, .int .i64 cc, .int .u64 im, .int .i64 dp], .pointer (some ⟨B, 0, none⟩)] w fun e w' => DoN R w C B M m most (askM mp (askS mp 1 2 8 (nearM s (⟨21, a, b, al, cc, im, dp⟩ : InsV)) 8)) s0 (askS mp 1 2 8 (nearM s (⟨21, a, b, al, cc, im, dp⟩ : InsV)) 8).1 (askS mp 1 2 8 (nearM s (⟨21, a, b, al, cc, im, dp⟩ : InsV)) 8).2.1 e w' := by
  have HL := Lib.hid hl
  have HSZ := Lib.hid H.mem.sz
  have HX := Lib.hid H
  have hlB := H.mem.sz B H.rB
  have hlC := H.mem.sz C H.rC
  clear H hl
  go_enter Try.func63, Try.ntmps63
  go_upto_region 1 with (fail)
  obtain ⟨w1, hw1⟩ : ∃ w1, w.alloc (.cells #[.int .i64 21, .int .i64 a, .int .i64 b, .int .i64 al, .int .i64 cc, .int .u64 im, .int .i64 dp] 27) = w1 := ⟨_, rfl⟩
  obtain ⟨D, hD⟩ : ∃ D, w.heap.size = D := ⟨_, rfl⟩
  have HX1 := Lib.hid (show Ctx (fun k => R k ∨ k = D) w1 C B M m most mp s0 fk fa s from by rw [← hw1, ← hD]; exact HX.out.boxed _)
  have HD1 := Lib.hid (show w1.heap[D]? = some (.cells #[.int .i64 21, .int .i64 a, .int .i64 b, .int .i64 al, .int .i64 cc, .int .u64 im, .int .i64 dp] 27 (0, 0)) from by rw [← hw1, ← hD]; exact heap_alloc_new w _)
  have HBK := Lib.hid (show Kept R w w1 from by rw [← hw1]; exact (Kept.refl R w).alloc HSZ.out _)
  have HDB := Lib.hid (show D ≠ B ∧ D ≠ C ∧ ¬ R D from ⟨by omega, by omega, fun h => by have := HSZ.out D h; omega⟩)
  refine (congrArg _ hw1).mpr ?_
  rw [hD]
  clear hw1 hD hlB hlC HX HSZ
  have c0 : w1.cell? ⟨D, 0, none⟩ = some (.int .i64 21) := by rw [cell_of_row' HD1.out]; rfl
  have c1 : w1.cell? ⟨D, 1, none⟩ = some (.int .i64 a) := by rw [cell_of_row' HD1.out]; rfl
  have c2 : w1.cell? ⟨D, 2, none⟩ = some (.int .i64 b) := by rw [cell_of_row' HD1.out]; rfl
  have c3 : w1.cell? ⟨D, 3, none⟩ = some (.int .i64 al) := by rw [cell_of_row' HD1.out]; rfl
  have c4 : w1.cell? ⟨D, 4, none⟩ = some (.int .i64 cc) := by rw [cell_of_row' HD1.out]; rfl
  have c5 : w1.cell? ⟨D, 5, none⟩ = some (.int .u64 im) := by rw [cell_of_row' HD1.out]; rfl
  have c6 : w1.cell? ⟨D, 6, none⟩ = some (.int .i64 dp) := by rw [cell_of_row' HD1.out]; rfl
  have HNB := Lib.hid (nearM_bd s (⟨21, a, b, al, cc, im, dp⟩ : InsV))
  have HN := Lib.hid (show Calls Try.prog 66 #[.pointer (some ⟨B, 0, none⟩), .agg #[.int .i64 21, .int .i64 a, .int .i64 b, .int .i64 al, .int .i64 cc, .int .u64 im, .int .i64 dp]] w1 fun e w' => e = .returned (.int .u64 (nearM s (⟨21, a, b, al, cc, im, dp⟩ : InsV))) ∧ Below w1.heap.size w1 w' from near_any w1 B s (⟨21, a, b, al, cc, im, dp⟩ : InsV) HX1.out.st)
  obtain ⟨nr, hnr⟩ : ∃ nr, nearM s (⟨21, a, b, al, cc, im, dp⟩ : InsV) = nr := ⟨_, rfl⟩
  have HNR := Lib.hid hnr
  rw [hnr] at HNB HN HL
  clear hnr
  go_wp2_with fail
  refine HN.out.mono ?_
  rintro e w2 ⟨rfl, hb2⟩
  have HB2 := Lib.hid hb2
  clear hb2 HN c0 c1 c2 c3 c4 c5 c6
  obtain ⟨w3, hw3⟩ : ∃ w3, w2.alloc (.cells #[.int .u64 nr] 22) = w3 := ⟨_, rfl⟩
  obtain ⟨E, hE⟩ : ∃ E, w2.heap.size = E := ⟨_, rfl⟩
  have hb3 : Below w1.heap.size w1 w3 := by rw [← hw3]; exact HB2.out.alloc HB2.out.size _
  have hE3 : E < w3.heap.size := by rw [← hw3, ← hE]; simp
  have hE1 : w1.heap.size ≤ E := by rw [← hE]; exact HB2.out.size
  have HX3 := Lib.hid (HX1.out.own hb3)
  have HER := Lib.hid (show ((R E ∨ E = D) ∨ (w1.heap.size ≤ E ∧ E < w3.heap.size)) from .inr ⟨hE1, hE3⟩)
  have HEC := Lib.hid (show w3.cell? ⟨E, 0, none⟩ = some (.int .u64 nr) ∧ w3.frozen? ⟨E, 0, none⟩ = false from by rw [← hw3, ← hE]; exact ⟨by simp [go_sem], by simp [go_sem]⟩)
  have HD3 := Lib.hid (show w3.heap[D]? = some (.cells #[.int .i64 21, .int .i64 a, .int .i64 b, .int .i64 al, .int .i64 cc, .int .u64 im, .int .i64 dp] 27 (0, 0)) from (hb3.block D (lt_of_row' HD1.out)).trans HD1.out)
  have HEN := Lib.hid (show E ≠ B ∧ E ≠ C ∧ ¬ R E ∧ E ≠ D from by
    have h1 := HX1.out.mem.sz B (.inl (by rcases HX1.out.rB with h | h; exact h; exact absurd h.symm HDB.out.1))
    have h2 := HX1.out.mem.sz C (.inl (by rcases HX1.out.rC with h | h; exact h; exact absurd h.symm HDB.out.2.1))
    have h3 := lt_of_row' HD1.out
    exact ⟨by omega, by omega, fun h => by have := HX1.out.mem.sz E (.inl h); omega, by omega⟩)
  have HBK3 := Lib.hid (HBK.out.trans (Kept.of_below hb3 (fun k hk => HX1.out.mem.sz k (.inl hk))))
  clear hb3 hE3 hE1
  have c0 : w3.cell? ⟨D, 0, none⟩ = some (.int .i64 21) := by rw [cell_of_row' HD3.out]; rfl
  go_upto_region 9 with (fail)
  clear hw3 hE
  have ce := HEC.out.1
  go_wp2_with fail
  refine (load_no _ w3 C M m most mp s0 fk fa nr _ HX3.out.ok HNB.out.1 HNB.out.2 HX3.out.mem HX3.out.cpu HX3.out.rC HL.out).mono ?_
  rintro e w4 ⟨rfl, hm4, hc4, hk4⟩
  have HY := Lib.hid ((show DoN (fun k => (R k ∨ k = D) ∨ (w1.heap.size ≤ k ∧ k < w3.heap.size)) w3 C B M m most (askM mp (askS mp 1 2 8 nr 8)) s0 (askS mp 1 2 8 nr 8).1 (askS mp 1 2 8 nr 8).2.1 (.returned (.bool false)) w4 from ⟨rfl, hm4, hc4, hk4.mono (fun k hk => ⟨hk.1, hk.2.1⟩)⟩).back HBK3.out (fun k hk => .inl (.inl hk)))
  clear hm4 hc4 hk4 c0 ce
  go_wp2
  go_ret
  rw [HNR.out]
  exact HY.out

set_option maxHeartbeats 4000000 in
theorem doCallR_no (R : Nat → Prop) (w : World) (C B M m : Nat) (most : Int) (mp : Int → Option Pg) (s0 : StV) (fk fa : Int) (s : StV) (a b al cc im : Nat) (dp : Int) (H : Ctx R w C B M m most mp s0 fk fa s) (hl : (askS mp 1 2 8 (nearM s (⟨21, a, b, al, cc, im, dp⟩ : InsV)) 8).1 = 0) (hf : (askS mp 2 3 8 (subM (s.r 4)) 8).1 ≠ 0) :
    Calls Try.prog 63 #[.pointer (some ⟨C, 0, none⟩), .agg #[.int .i64 21, .int .i64 a, .int .i64 b, .int .i64 al, .int .i64 cc, .int .u64 im, .int .i64 dp], .pointer (some ⟨B, 0, none⟩)] w fun e w' => DoN R w C B M m most (askM mp (askS mp 2 3 8 (subM (s.r 4)) 8)) s0 (askS mp 2 3 8 (subM (s.r 4)) 8).1 (askS mp 2 3 8 (subM (s.r 4)) 8).2.1 e w' := by
  have HL := Lib.hid hl
  have HF := Lib.hid hf
  have HSZ := Lib.hid H.mem.sz
  have HX := Lib.hid H
  have hlB := H.mem.sz B H.rB
  have hlC := H.mem.sz C H.rC
  clear H hf hl
  go_enter Try.func63, Try.ntmps63
  go_upto_region 1 with (fail)
  obtain ⟨w1, hw1⟩ : ∃ w1, w.alloc (.cells #[.int .i64 21, .int .i64 a, .int .i64 b, .int .i64 al, .int .i64 cc, .int .u64 im, .int .i64 dp] 27) = w1 := ⟨_, rfl⟩
  obtain ⟨D, hD⟩ : ∃ D, w.heap.size = D := ⟨_, rfl⟩
  have HX1 := Lib.hid (show Ctx (fun k => R k ∨ k = D) w1 C B M m most mp s0 fk fa s from by rw [← hw1, ← hD]; exact HX.out.boxed _)
  have HD1 := Lib.hid (show w1.heap[D]? = some (.cells #[.int .i64 21, .int .i64 a, .int .i64 b, .int .i64 al, .int .i64 cc, .int .u64 im, .int .i64 dp] 27 (0, 0)) from by rw [← hw1, ← hD]; exact heap_alloc_new w _)
  have HBK := Lib.hid (show Kept R w w1 from by rw [← hw1]; exact (Kept.refl R w).alloc HSZ.out _)
  have HDB := Lib.hid (show D ≠ B ∧ D ≠ C ∧ ¬ R D from ⟨by omega, by omega, fun h => by have := HSZ.out D h; omega⟩)
  refine (congrArg _ hw1).mpr ?_
  rw [hD]
  clear hw1 hD hlB hlC HX HSZ
  have c0 : w1.cell? ⟨D, 0, none⟩ = some (.int .i64 21) := by rw [cell_of_row' HD1.out]; rfl
  have c1 : w1.cell? ⟨D, 1, none⟩ = some (.int .i64 a) := by rw [cell_of_row' HD1.out]; rfl
  have c2 : w1.cell? ⟨D, 2, none⟩ = some (.int .i64 b) := by rw [cell_of_row' HD1.out]; rfl
  have c3 : w1.cell? ⟨D, 3, none⟩ = some (.int .i64 al) := by rw [cell_of_row' HD1.out]; rfl
  have c4 : w1.cell? ⟨D, 4, none⟩ = some (.int .i64 cc) := by rw [cell_of_row' HD1.out]; rfl
  have c5 : w1.cell? ⟨D, 5, none⟩ = some (.int .u64 im) := by rw [cell_of_row' HD1.out]; rfl
  have c6 : w1.cell? ⟨D, 6, none⟩ = some (.int .i64 dp) := by rw [cell_of_row' HD1.out]; rfl
  have HNB := Lib.hid (nearM_bd s (⟨21, a, b, al, cc, im, dp⟩ : InsV))
  have HN := Lib.hid (show Calls Try.prog 66 #[.pointer (some ⟨B, 0, none⟩), .agg #[.int .i64 21, .int .i64 a, .int .i64 b, .int .i64 al, .int .i64 cc, .int .u64 im, .int .i64 dp]] w1 fun e w' => e = .returned (.int .u64 (nearM s (⟨21, a, b, al, cc, im, dp⟩ : InsV))) ∧ Below w1.heap.size w1 w' from near_any w1 B s (⟨21, a, b, al, cc, im, dp⟩ : InsV) HX1.out.st)
  obtain ⟨nr, hnr⟩ : ∃ nr, nearM s (⟨21, a, b, al, cc, im, dp⟩ : InsV) = nr := ⟨_, rfl⟩
  have HNR := Lib.hid hnr
  rw [hnr] at HNB HN HL
  clear hnr
  go_wp2_with fail
  refine HN.out.mono ?_
  rintro e w2 ⟨rfl, hb2⟩
  have HB2 := Lib.hid hb2
  clear hb2 HN c0 c1 c2 c3 c4 c5 c6
  obtain ⟨w3, hw3⟩ : ∃ w3, w2.alloc (.cells #[.int .u64 nr] 22) = w3 := ⟨_, rfl⟩
  obtain ⟨E, hE⟩ : ∃ E, w2.heap.size = E := ⟨_, rfl⟩
  have hb3 : Below w1.heap.size w1 w3 := by rw [← hw3]; exact HB2.out.alloc HB2.out.size _
  have hE3 : E < w3.heap.size := by rw [← hw3, ← hE]; simp
  have hE1 : w1.heap.size ≤ E := by rw [← hE]; exact HB2.out.size
  have HX3 := Lib.hid (HX1.out.own hb3)
  have HER := Lib.hid (show ((R E ∨ E = D) ∨ (w1.heap.size ≤ E ∧ E < w3.heap.size)) from .inr ⟨hE1, hE3⟩)
  have HEC := Lib.hid (show w3.cell? ⟨E, 0, none⟩ = some (.int .u64 nr) ∧ w3.frozen? ⟨E, 0, none⟩ = false from by rw [← hw3, ← hE]; exact ⟨by simp [go_sem], by simp [go_sem]⟩)
  have HD3 := Lib.hid (show w3.heap[D]? = some (.cells #[.int .i64 21, .int .i64 a, .int .i64 b, .int .i64 al, .int .i64 cc, .int .u64 im, .int .i64 dp] 27 (0, 0)) from (hb3.block D (lt_of_row' HD1.out)).trans HD1.out)
  have HEN := Lib.hid (show E ≠ B ∧ E ≠ C ∧ ¬ R E ∧ E ≠ D from by
    have h1 := HX1.out.mem.sz B (.inl (by rcases HX1.out.rB with h | h; exact h; exact absurd h.symm HDB.out.1))
    have h2 := HX1.out.mem.sz C (.inl (by rcases HX1.out.rC with h | h; exact h; exact absurd h.symm HDB.out.2.1))
    have h3 := lt_of_row' HD1.out
    exact ⟨by omega, by omega, fun h => by have := HX1.out.mem.sz E (.inl h); omega, by omega⟩)
  have HBK3 := Lib.hid (HBK.out.trans (Kept.of_below hb3 (fun k hk => HX1.out.mem.sz k (.inl hk))))
  clear hb3 hE3 hE1
  have c0 : w3.cell? ⟨D, 0, none⟩ = some (.int .i64 21) := by rw [cell_of_row' HD3.out]; rfl
  go_upto_region 9 with (fail)
  clear hw3 hE
  have ce := HEC.out.1
  go_wp2_with fail
  refine (load_yes _ w3 C M m most mp s0 fk fa nr E 0 nr HX3.out.ok HNB.out.1 HNB.out.2 HX3.out.mem HX3.out.cpu HX3.out.rC HER.out HEC.out.1 HEC.out.2 HL.out).mono ?_
  rintro e w4 ⟨rfl, w5, hk5, hm5, rfl⟩
  have HNB2 := Lib.hid (numM_bd HX3.out.ok nr)
  have HX5 := HX3.out.keep hm5 hk5
  have hec5 : w5.cell? ⟨E, 0, none⟩ = some (.int .u64 nr) := (hk5.cell (p := ⟨E, 0, none⟩) HER.out).trans HEC.out.1
  obtain ⟨v2, hv2⟩ : ∃ v2, numM mp nr = v2 := ⟨_, rfl⟩
  have HV2 := Lib.hid hv2
  rw [hv2] at HNB2 ⊢
  have hk6 : Kept R w5 (w5.setCell ⟨E, 0, none⟩ (.int .u64 v2)) := (Kept.refl R w5).setCell (fun h => HEN.out.2.2.1 h) _
  have HX6 := Lib.hid (show Ctx (fun k => (R k ∨ k = D) ∨ (w1.heap.size ≤ k ∧ k < w3.heap.size)) (w5.setCell ⟨E, 0, none⟩ (.int .u64 v2)) C B M m most mp s0 fk fa s from ⟨HX5.mem.setFar HER.out _, HX5.cpu.of_block (Below.heap_setCell w5 ⟨E, 0, none⟩ _ C HEN.out.2.1.symm) (by simp [World.setCell]), Own.of_block HX5.st (Below.heap_setCell w5 ⟨E, 0, none⟩ _ B HEN.out.1.symm) (by simp [World.setCell]), HX5.rC, HX5.rB, HX5.ne, HX5.ok, HX5.sok⟩)
  have HEC6 := Lib.hid (show (w5.setCell ⟨E, 0, none⟩ (.int .u64 v2)).cell? ⟨E, 0, none⟩ = some (.int .u64 v2) ∧ True from ⟨World.cell?_setCell_same w5 _ _ hec5, trivial⟩)
  have HBK6 := Lib.hid ((HBK3.out.trans (hk5.mono (fun k hk => .inl (.inl hk)))).trans hk6)
  clear hk5 hm5 hk6 HX5 hec5 c0 ce
  generalize w5.setCell ⟨E, 0, none⟩ (.int .u64 v2) = w6 at *
  have ci := HX6.out.st.ipc.1
  go_wp2_with fail
  refine (push_no _ w6 C B M m most mp s0 fk fa s s.ip HX1.out.sok.ip.1 HX1.out.sok.ip.2 HX6.out HF.out).mono ?_
  intro e w7 hY
  have HY := Lib.hid (hY.back HBK6.out (fun k hk => .inl (.inl hk)))
  obtain rfl := hY.e
  clear hY ci
  go_wp2
  go_ret
  exact HY.out

set_option maxHeartbeats 4000000 in
theorem doCallR_yes (R : Nat → Prop) (w : World) (C B M m : Nat) (most : Int) (mp : Int → Option Pg) (s0 : StV) (fk fa : Int) (s : StV) (a b al cc im : Nat) (dp : Int) (H : Ctx R w C B M m most mp s0 fk fa s) (hl : (askS mp 1 2 8 (nearM s (⟨21, a, b, al, cc, im, dp⟩ : InsV)) 8).1 = 0) (hf : (askS mp 2 3 8 (subM (s.r 4)) 8).1 = 0) :
    Calls Try.prog 63 #[.pointer (some ⟨C, 0, none⟩), .agg #[.int .i64 21, .int .i64 a, .int .i64 b, .int .i64 al, .int .i64 cc, .int .u64 im, .int .i64 dp], .pointer (some ⟨B, 0, none⟩)] w fun e w' => DoY R w B M m most (putP mp (subM (s.r 4)) 8 (le8 s.ip)) ((s.setR 4 (subM (s.r 4))).setIp (numM mp (nearM s (⟨21, a, b, al, cc, im, dp⟩ : InsV)))) e w' := by
  have HL := Lib.hid hl
  have HF := Lib.hid hf
  have HSZ := Lib.hid H.mem.sz
  have HX := Lib.hid H
  have hlB := H.mem.sz B H.rB
  have hlC := H.mem.sz C H.rC
  clear H hf hl
  go_enter Try.func63, Try.ntmps63
  go_upto_region 1 with (fail)
  obtain ⟨w1, hw1⟩ : ∃ w1, w.alloc (.cells #[.int .i64 21, .int .i64 a, .int .i64 b, .int .i64 al, .int .i64 cc, .int .u64 im, .int .i64 dp] 27) = w1 := ⟨_, rfl⟩
  obtain ⟨D, hD⟩ : ∃ D, w.heap.size = D := ⟨_, rfl⟩
  have HX1 := Lib.hid (show Ctx (fun k => R k ∨ k = D) w1 C B M m most mp s0 fk fa s from by rw [← hw1, ← hD]; exact HX.out.boxed _)
  have HD1 := Lib.hid (show w1.heap[D]? = some (.cells #[.int .i64 21, .int .i64 a, .int .i64 b, .int .i64 al, .int .i64 cc, .int .u64 im, .int .i64 dp] 27 (0, 0)) from by rw [← hw1, ← hD]; exact heap_alloc_new w _)
  have HBK := Lib.hid (show Kept R w w1 from by rw [← hw1]; exact (Kept.refl R w).alloc HSZ.out _)
  have HDB := Lib.hid (show D ≠ B ∧ D ≠ C ∧ ¬ R D from ⟨by omega, by omega, fun h => by have := HSZ.out D h; omega⟩)
  refine (congrArg _ hw1).mpr ?_
  rw [hD]
  clear hw1 hD hlB hlC HX HSZ
  have c0 : w1.cell? ⟨D, 0, none⟩ = some (.int .i64 21) := by rw [cell_of_row' HD1.out]; rfl
  have c1 : w1.cell? ⟨D, 1, none⟩ = some (.int .i64 a) := by rw [cell_of_row' HD1.out]; rfl
  have c2 : w1.cell? ⟨D, 2, none⟩ = some (.int .i64 b) := by rw [cell_of_row' HD1.out]; rfl
  have c3 : w1.cell? ⟨D, 3, none⟩ = some (.int .i64 al) := by rw [cell_of_row' HD1.out]; rfl
  have c4 : w1.cell? ⟨D, 4, none⟩ = some (.int .i64 cc) := by rw [cell_of_row' HD1.out]; rfl
  have c5 : w1.cell? ⟨D, 5, none⟩ = some (.int .u64 im) := by rw [cell_of_row' HD1.out]; rfl
  have c6 : w1.cell? ⟨D, 6, none⟩ = some (.int .i64 dp) := by rw [cell_of_row' HD1.out]; rfl
  have HNB := Lib.hid (nearM_bd s (⟨21, a, b, al, cc, im, dp⟩ : InsV))
  have HN := Lib.hid (show Calls Try.prog 66 #[.pointer (some ⟨B, 0, none⟩), .agg #[.int .i64 21, .int .i64 a, .int .i64 b, .int .i64 al, .int .i64 cc, .int .u64 im, .int .i64 dp]] w1 fun e w' => e = .returned (.int .u64 (nearM s (⟨21, a, b, al, cc, im, dp⟩ : InsV))) ∧ Below w1.heap.size w1 w' from near_any w1 B s (⟨21, a, b, al, cc, im, dp⟩ : InsV) HX1.out.st)
  obtain ⟨nr, hnr⟩ : ∃ nr, nearM s (⟨21, a, b, al, cc, im, dp⟩ : InsV) = nr := ⟨_, rfl⟩
  have HNR := Lib.hid hnr
  rw [hnr] at HNB HN HL
  clear hnr
  go_wp2_with fail
  refine HN.out.mono ?_
  rintro e w2 ⟨rfl, hb2⟩
  have HB2 := Lib.hid hb2
  clear hb2 HN c0 c1 c2 c3 c4 c5 c6
  obtain ⟨w3, hw3⟩ : ∃ w3, w2.alloc (.cells #[.int .u64 nr] 22) = w3 := ⟨_, rfl⟩
  obtain ⟨E, hE⟩ : ∃ E, w2.heap.size = E := ⟨_, rfl⟩
  have hb3 : Below w1.heap.size w1 w3 := by rw [← hw3]; exact HB2.out.alloc HB2.out.size _
  have hE3 : E < w3.heap.size := by rw [← hw3, ← hE]; simp
  have hE1 : w1.heap.size ≤ E := by rw [← hE]; exact HB2.out.size
  have HX3 := Lib.hid (HX1.out.own hb3)
  have HER := Lib.hid (show ((R E ∨ E = D) ∨ (w1.heap.size ≤ E ∧ E < w3.heap.size)) from .inr ⟨hE1, hE3⟩)
  have HEC := Lib.hid (show w3.cell? ⟨E, 0, none⟩ = some (.int .u64 nr) ∧ w3.frozen? ⟨E, 0, none⟩ = false from by rw [← hw3, ← hE]; exact ⟨by simp [go_sem], by simp [go_sem]⟩)
  have HD3 := Lib.hid (show w3.heap[D]? = some (.cells #[.int .i64 21, .int .i64 a, .int .i64 b, .int .i64 al, .int .i64 cc, .int .u64 im, .int .i64 dp] 27 (0, 0)) from (hb3.block D (lt_of_row' HD1.out)).trans HD1.out)
  have HEN := Lib.hid (show E ≠ B ∧ E ≠ C ∧ ¬ R E ∧ E ≠ D from by
    have h1 := HX1.out.mem.sz B (.inl (by rcases HX1.out.rB with h | h; exact h; exact absurd h.symm HDB.out.1))
    have h2 := HX1.out.mem.sz C (.inl (by rcases HX1.out.rC with h | h; exact h; exact absurd h.symm HDB.out.2.1))
    have h3 := lt_of_row' HD1.out
    exact ⟨by omega, by omega, fun h => by have := HX1.out.mem.sz E (.inl h); omega, by omega⟩)
  have HBK3 := Lib.hid (HBK.out.trans (Kept.of_below hb3 (fun k hk => HX1.out.mem.sz k (.inl hk))))
  clear hb3 hE3 hE1
  have c0 : w3.cell? ⟨D, 0, none⟩ = some (.int .i64 21) := by rw [cell_of_row' HD3.out]; rfl
  go_upto_region 9 with (fail)
  clear hw3 hE
  have ce := HEC.out.1
  go_wp2_with fail
  refine (load_yes _ w3 C M m most mp s0 fk fa nr E 0 nr HX3.out.ok HNB.out.1 HNB.out.2 HX3.out.mem HX3.out.cpu HX3.out.rC HER.out HEC.out.1 HEC.out.2 HL.out).mono ?_
  rintro e w4 ⟨rfl, w5, hk5, hm5, rfl⟩
  have HNB2 := Lib.hid (numM_bd HX3.out.ok nr)
  have HX5 := HX3.out.keep hm5 hk5
  have hec5 : w5.cell? ⟨E, 0, none⟩ = some (.int .u64 nr) := (hk5.cell (p := ⟨E, 0, none⟩) HER.out).trans HEC.out.1
  obtain ⟨v2, hv2⟩ : ∃ v2, numM mp nr = v2 := ⟨_, rfl⟩
  have HV2 := Lib.hid hv2
  rw [hv2] at HNB2 ⊢
  try clear hv2
  have hk6 : Kept R w5 (w5.setCell ⟨E, 0, none⟩ (.int .u64 v2)) := (Kept.refl R w5).setCell (fun h => HEN.out.2.2.1 h) _
  have HX6 := Lib.hid (show Ctx (fun k => (R k ∨ k = D) ∨ (w1.heap.size ≤ k ∧ k < w3.heap.size)) (w5.setCell ⟨E, 0, none⟩ (.int .u64 v2)) C B M m most mp s0 fk fa s from ⟨HX5.mem.setFar HER.out _, HX5.cpu.of_block (Below.heap_setCell w5 ⟨E, 0, none⟩ _ C HEN.out.2.1.symm) (by simp [World.setCell]), Own.of_block HX5.st (Below.heap_setCell w5 ⟨E, 0, none⟩ _ B HEN.out.1.symm) (by simp [World.setCell]), HX5.rC, HX5.rB, HX5.ne, HX5.ok, HX5.sok⟩)
  have HEC6 := Lib.hid (show (w5.setCell ⟨E, 0, none⟩ (.int .u64 v2)).cell? ⟨E, 0, none⟩ = some (.int .u64 v2) ∧ True from ⟨World.cell?_setCell_same w5 _ _ hec5, trivial⟩)
  have HBK6 := Lib.hid ((HBK3.out.trans (hk5.mono (fun k hk => .inl (.inl hk)))).trans hk6)
  clear hk5 hm5 hk6 HX5 hec5 c0 ce
  generalize w5.setCell ⟨E, 0, none⟩ (.int .u64 v2) = w6 at *
  have ci := HX6.out.st.ipc.1
  go_wp2_with fail
  refine (push_yes _ w6 C B M m most mp s0 fk fa s s.ip HX1.out.sok.ip.1 HX1.out.sok.ip.2 HX6.out HF.out).mono ?_
  intro e w7 hY
  have HY := Lib.hid (hY.back HBK6.out (fun k hk => .inl (.inl hk)))
  have HEC7 := Lib.hid (show w7.cell? ⟨E, 0, none⟩ = some (.int .u64 v2) from (hY.kept.cell (p := ⟨E, 0, none⟩) ⟨HER.out, HEN.out.1⟩).trans HEC6.out.1)
  have HRB := Lib.hid (show R B from by
    rcases HX1.out.rB with h | h
    · exact h
    · exact absurd h.symm HDB.out.1)
  obtain rfl := hY.e
  clear hY ci
  have ce := HEC7.out
  have cz := HY.out.st.ipc
  go_wp2_with fail
  go_ret
  rw [HNR.out, HV2.out]
  exact ⟨rfl, HY.out.mem.setFar HRB.out _, HY.out.st.setIp _, HY.out.kept.trans (keptB w7 B 16 _)⟩

end Go.Proofs.Ythbgmlmcjnlopaa
