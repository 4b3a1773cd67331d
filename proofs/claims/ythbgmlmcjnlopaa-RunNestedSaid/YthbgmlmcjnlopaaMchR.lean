/- law 16: what the document fixes. -/
import Derived.Test.YthbgmlmcjnlopaaMchQ
namespace Go.Proofs.Ythbgmlmcjnlopaa
open Go.ChangeShapes Go.WideShapes Go.ChangeAt Go.RowKit
set_option linter.unusedVariables false
set_option linter.unusedSimpArgs false
set_option maxRecDepth 100000

def al0 : AlV := ⟨0, false, false, false, false⟩
def noM : Int → Option Pg := fun _ => none
def hAw (j : Nat) : Int := if j = 0 then 205 else 32
def mpAw : Int → Option Pg := putP (setP noM 4096 5 1) 4096 2 hAw
theorem aw1 : stepM mpAw (st0.setIp 4096) 0 0 al0 = ⟨288, 0, mpAw, nextS (st0.setIp 4096) 2, 0, 0⟩ := by kernel_rfl
theorem aw2 : stepM mpAw (nextS (st0.setIp 4096) 2) 0 0 al0 = ⟨0, 16, mpAw, nextS (st0.setIp 4096) 2, 0, 0⟩ := by kernel_rfl
theorem awF : fetchM mpAw (st0.setIp 4096).ip 12 [] = ⟨false, mpAw, ⟨23, 0, 0, 0, 0, 32, 0⟩, 2, 0, 0, 0⟩ := by kernel_rfl
theorem awE : (fetchM mpAw (nextS (st0.setIp 4096) 2).ip 12 []).e = 16 := by kernel_rfl
theorem awG : (fetchM mpAw ((nextS (st0.setIp 4096) 2).setIp 0).ip 12 []).flt = true := by kernel_rfl
theorem aw3 : stepM mpAw ((nextS (st0.setIp 4096) 2).setIp 0) 0 0 al0 = ⟨0, 17, mpAw, (nextS (st0.setIp 4096) 2).setIp 0, 1, 0⟩ := by kernel_rfl
theorem aluD_none {x : InsV} {s : StV} {al : AlV} (h0 : 0 ≤ al.v) (h1 : al.v < 18446744073709551616) (h : x.op ≠ 7 ∧ x.op ≠ 14 ∧ x.op ≠ 15 ∧ x.op ≠ 16) : AluD x s al :=
  ⟨h0, h1, fun e => absurd e h.1, fun e => by rcases e with e | e | e; exact absurd e h.2.1; exact absurd e h.2.2.1; exact absurd e h.2.2.2⟩
theorem mpAw_ok : MpOk mpAw := (MpOk.none.set (a := 4096) (p := 5) (by omega) (by omega) (by omega) 1 (by omega)).put 4096 2 (fun j => by unfold hAw; split <;> omega)
theorem Box.start {R : Nat → Prop} {w0 w w' : World} {M m : Nat} {most : Int} {mp : Int → Option Pg} (hm : MemAt R w M m most mp) (ho : MpOk mp) (hr : ∀ k, k < w0.heap.size → R k) (hk : Kept (· < w0.heap.size) w0 w)
    (hb : Below w.heap.size w w') (hc : CpuM w' w.heap.size M st0 0 0) : Box (fun k => R k ∨ (w.heap.size ≤ k ∧ k < w'.heap.size)) w0 w' w.heap.size M m most mp st0 0 0 :=
  ⟨hm.more hb, hc, .inr ⟨Nat.le_refl _, hc.1⟩, ho, StOk.zero, fun k hk => .inl (hr k hk), hk.trans (Kept.of_below hb (fun k hk => hm.sz k (hr k hk))), hk.size⟩

theorem Box.ends {R : Nat → Prop} {w0 w : World} {C M m : Nat} {most : Int} {mp : Int → Option Pg} {s : StV} {fk fa : Int} (h : Box R w0 w C M m most mp s fk fa) : Below w0.heap.size w0 w := ⟨h.kept.os, h.kept.tape, h.kept.output, h.kept.size, fun i hi => h.kept.block i hi⟩

set_option maxHeartbeats 4000000 in
theorem awake16_any (w : World) : Calls Try.prog 13 #[] w fun e w' => e = .returned (.bool true) ∧ Below w.heap.size w w' := by
  have HNM := Lib.hid (newMem_any (· < w.heap.size) w 1 (fun _ h => h) (by omega) (by omega))
  go_enter Try.func13, Try.ntmps13
  go_wp2_with fail
  refine HNM.out.mono ?_
  rintro e w1 ⟨M, rfl, hm1, hk1⟩
  have HM1 := Lib.hid hm1
  have HK1 := Lib.hid hk1
  clear hm1 hk1 HNM
  go_wp2_with fail
  refine (map_core _ w1 M 0 1 noM 4096 5 1 (by omega) ⟨by decide, by omega, by omega, by omega⟩ (by omega) (by omega) (fun i _ => rfl) (by omega) HM1.out).mono ?_
  rintro e w2 ⟨rfl, hm2, hk2⟩
  have HM2 := Lib.hid hm2
  have HK2 := Lib.hid (HK1.out.trans hk2)
  clear hm2 hk2
  go_wp2_with fail
  obtain ⟨w3, hw3⟩ : ∃ w3, w2.alloc (.cells #[.int .u8 205, .int .u8 32] 5) = w3 := ⟨_, rfl⟩
  have hb3 : Below w2.heap.size w2 w3 := by rw [← hw3]; exact (Below.refl _ _).alloc (Nat.le_refl _) _
  have hz3 : w3.heap[w2.heap.size]? = some (.cells #[.int .u8 205, .int .u8 32] 5 (0, 0)) := by rw [← hw3]; exact heap_alloc_new w2 _
  rw [hw3]
  have HM3 := Lib.hid (HM2.out.more hb3)
  have HK3 := Lib.hid (HK2.out.trans (Kept.of_below hb3 (fun k hk => HM2.out.sz k hk)))
  have HSRC := Lib.hid (show SrcR (fun k => k < w.heap.size ∨ (w2.heap.size ≤ k ∧ k < w3.heap.size)) w3 (some ⟨w2.heap.size, 0, none⟩) 2 hAw from .inr ⟨_, 0, rfl, .inr ⟨Nat.le_refl _, lt_of_row' hz3⟩, fun j hj => by
    rw [Nat.zero_add, cell_of_row' hz3]
    rcases (by omega : j = 0 ∨ j = 1) with rfl | rfl <;> rfl⟩)
  clear hb3 hz3 hw3
  refine (poke_yes _ w3 M _ 1 _ 4096 _ 2 2 hAw (by omega) (by omega) (by omega) (by omega) (by omega) (fun i h0 h1 => ?_) HSRC.out HM3.out).mono ?_
  · have : (4096 : Int) + i - (4096 + i) % 4096 = 4096 := by omega
    rw [this]
    intro h
    exact absurd h (by decide)
  rintro e w4 ⟨rfl, hm4, hk4⟩
  have HM4 := Lib.hid hm4
  have HK4 := Lib.hid (HK3.out.trans (hk4.mono (fun k hk => .inl hk)))
  clear hm4 hk4 HM3 HK3 HSRC HM2 HK2 HM1 HK1
  go_wp2_with fail
  refine (makeCpu_any w4 M).mono ?_
  rintro e w5 ⟨rfl, hb5, hc5⟩
  have HX5 := Lib.hid (Box.start HM4.out mpAw_ok (fun k hk => .inl hk) HK4.out hb5 hc5)
  generalize w4.heap.size = C at *
  clear hb5 hc5 HM4 HK4
  go_wp2_with fail
  refine (jump_any w5 C M _ _ _ 4096 HX5.out.cpu).mono ?_
  rintro e w6 ⟨rfl, rfl⟩
  have HX6 := Lib.hid (HX5.out.setIp (v := 4096) (by omega) (by omega))
  generalize w5.setCell ⟨C, 17, none⟩ (.int .u64 4096) = w6 at *
  clear HX5
  have hs2 : StOk (nextS (st0.setIp 4096) 2) := (StOk.zero.setIp (by omega) (by omega)).setIp (by decide) (by decide)
  go_wp2_with fail
  refine (stepBox HX6.out al0 (fun _ _ => by show AluD (fetchM mpAw (st0.setIp 4096).ip 12 []).x (nextS (st0.setIp 4096) (fetchM mpAw (st0.setIp 4096).ip 12 []).n) al0; rw [awF]; exact aluD_none (by decide) (by decide) (by decide)) _ aw1 mpAw_ok hs2).mono ?_
  rintro e w7 ⟨rfl, hx7⟩
  have HX7 := Lib.hid hx7
  clear hx7 HX6
  go_wp2_with fail
  refine (stepBox HX7.out al0 (fun _ h => by rw [awE] at h; exact absurd h (by decide)) _ aw2 mpAw_ok hs2).mono ?_
  rintro e w8 ⟨rfl, hx8⟩
  have HX8 := Lib.hid hx8
  clear hx8 HX7
  go_wp2_with fail
  refine (jump_any w8 C M _ _ _ 0 HX8.out.cpu).mono ?_
  rintro e w9 ⟨rfl, rfl⟩
  have HX9 := Lib.hid (HX8.out.setIp (v := 0) (by omega) (by omega))
  generalize w8.setCell ⟨C, 17, none⟩ (.int .u64 0) = w9 at *
  clear HX8
  have hs3 : StOk ((nextS (st0.setIp 4096) 2).setIp 0) := hs2.setIp (by omega) (by omega)
  go_wp2_with fail
  refine (stepBox HX9.out al0 (fun h _ => by rw [awG] at h; exact absurd h (by decide)) _ aw3 mpAw_ok hs3).mono ?_
  rintro e w10 ⟨rfl, hx10⟩
  have HX10 := Lib.hid hx10
  clear hx10 HX9
  go_wp2_with fail
  refine (getIp_any w10 C M _ _ _ HX10.out.cpu).mono ?_
  rintro e w11 ⟨rfl, rfl⟩
  go_wp2_with fail
  refine (getFault_any w11 C M _ _ _ HX10.out.cpu).mono ?_
  rintro e w12 ⟨rfl, hb12⟩
  have HX12 := Lib.hid (HX10.out.below hb12)
  clear hb12 HX10
  go_wp2
  go_ret
  refine ⟨rfl, ?_⟩
  exact HX12.out.ends
end Go.Proofs.Ythbgmlmcjnlopaa
