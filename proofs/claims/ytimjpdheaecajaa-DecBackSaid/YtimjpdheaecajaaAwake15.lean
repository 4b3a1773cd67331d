/- What the document fixes of instructions. -/
import Derived.Test.YtimjpdheaecajaaDecH
import Derived.Test.YtimjpdheaecajaaDecN
namespace Go.Proofs.Ytimjpdheaecajaa
open Go.ChangeShapes Go.WideShapes Go.ChangeAt Go.RowKit
set_option linter.unusedVariables false

theorem dec_t1 : decodeM forms 16 [72, 1, 200] = ⟨⟨7, 1, 0, 0, 0, 0, 0⟩, 3, 0⟩ := by decide +kernel
theorem dec_t2 : decodeM forms 16 [72] = ⟨⟨0, 0, 0, 0, 0, 0, 0⟩, 0, 2⟩ := by decide +kernel
theorem dec_t3 : decodeM forms 16 [15] = ⟨⟨0, 0, 0, 0, 0, 0, 0⟩, 0, 16⟩ := by decide +kernel
theorem find_t4 : findM forms ⟨2, 0, 0, 0, 0, 0, 0⟩ = some ⟨2, 0, 0, 0, 195, 0, 0, 0⟩ := by decide +kernel
theorem enc_t4 : encM ⟨2, 0, 0, 0, 195, 0, 0, 0⟩ ⟨2, 0, 0, 0, 0, 0, 0⟩ = [195] := by decide +kernel

theorem dec_lit (w : World) (bs : List Nat) (T : TypeId) (cap : Nat) (hc : bs.length ≤ cap) (hc' : cap ≤ 9223372036854775807) (G : Got) (hG : decodeM forms 16 bs = G) (hb : Bn bs) :
    Calls Try.prog 9 #[.slice (some ⟨w.heap.size, 0, none⟩) bs.length cap] (w.alloc (.cells (bs.map fun (n : Nat) => Value.int .u8 (n : Int)).toArray T)) fun e w' =>
      e = .returned (.tuple #[insV G.x, .int .i64 G.n, .int .i64 G.fit]) ∧ Below w.heap.size w w' := by
  refine (decode_any w.heap.size 0 bs cap _ hb hc hc' (slB_new w bs T)).mono ?_
  rintro e w' ⟨rfl, hw⟩
  exact ⟨by rw [hG], ((Below.refl w.heap.size w).alloc (Nat.le_refl _) _).trans (hw.mono (by simp))⟩

theorem form_ret_in : (⟨2, 0, 0, 0, 195, 0, 0, 0⟩ : Form) ∈ forms := by decide +kernel
theorem enc_ret (w : World) : Calls Try.prog 7 #[.agg #[.int .i64 2, .int .i64 0, .int .i64 0, .int .i64 0, .int .i64 0, .int .u64 0, .int .i64 0]] w fun e w' =>
    ∃ g off c, e = .returned (.tuple #[.slice (some ⟨g, off, none⟩) 1 c, .bool true]) ∧ Row w' g off 1 (litF (zL [195])) ∧ Below w.heap.size w w' := by
  have h := encode_any ⟨2, 0, 0, 0, 0, 0, 0⟩ ⟨2, 0, 0, 0, 195, 0, 0, 0⟩ w ⟨by decide, by decide, by decide, by decide, by decide, by decide, by decide, by decide⟩ find_t4 (forms_ok _ form_ret_in)
  rw [enc_t4] at h
  refine h.mono ?_
  rintro e w' ⟨A, c, rfl, ho, hw⟩
  obtain ⟨_, _, _, hsl, _⟩ := ho.slice
  rcases hsl with h | ⟨g, off, rfl, _, hr⟩
  · exact absurd h (by decide)
  · exact ⟨g, off, c, rfl, hr, hw⟩
theorem str_ret : strF (litF (zL [195])) 0 1 = ⟨#[195]⟩ := by decide +kernel

set_option maxRecDepth 100000 in
set_option maxHeartbeats 1000000 in
theorem awake15_any (w : World) : Calls Try.prog 8 #[] w fun e w' => e = .returned (.bool true) ∧ Below w.heap.size w w' := by
  have H1 := Lib.hid (fun W => dec_lit W [72, 1, 200] 5 3 (by simp) (by omega) _ dec_t1 (fun v hv => by simp at hv; omega))
  have H2 := Lib.hid (fun W => dec_lit W [72] 5 1 (by simp) (by omega) _ dec_t2 (fun v hv => by simp at hv; omega))
  have H3 := Lib.hid (fun W => dec_lit W [15] 5 1 (by simp) (by omega) _ dec_t3 (fun v hv => by simp at hv; omega))
  go_enter Try.func8, Try.ntmps8
  go_wp2_with fail
  refine (H1.out _).mono ?_
  rintro e w1 ⟨rfl, hw1⟩
  have HB := Lib.hid hw1
  clear hw1
  unfold insV
  go_upto_region 2 with (fail)
  have HI1 := Lib.hid (show Own (w1.alloc (.cells #[.int .i64 7, .int .i64 1, .int .i64 0, .int .i64 0, .int .i64 0, .int .u64 0, .int .i64 0] 24)) w1.heap.size 7 (insF ⟨7, 1, 0, 0, 0, 0, 0⟩) from ins_alloc w1 ⟨7, 1, 0, 0, 0, 0, 0⟩ 24)
  replace HB := Lib.hid (HB.out.alloc HB.out.size (.cells #[.int .i64 7, .int .i64 1, .int .i64 0, .int .i64 0, .int .i64 0, .int .u64 0, .int .i64 0] 24))
  generalize w1.alloc (.cells #[.int .i64 7, .int .i64 1, .int .i64 0, .int .i64 0, .int .i64 0, .int .u64 0, .int .i64 0] 24) = w2 at *
  generalize w1.heap.size = b1 at *
  go_wp2_with fail
  refine (H2.out _).mono ?_
  rintro e w3 ⟨rfl, hw3⟩
  replace HI1 := Lib.hid (HI1.out.below hw3 HI1.out.1)
  replace HB := Lib.hid (HB.out.trans (hw3.mono HB.out.size))
  clear hw3
  unfold insV
  go_upto_region 3 with (fail)
  replace HI1 := Lib.hid (HI1.out.alloc (.cells #[.int .i64 0, .int .i64 0, .int .i64 0, .int .i64 0, .int .i64 0, .int .u64 0, .int .i64 0] 24))
  replace HB := Lib.hid (HB.out.alloc HB.out.size (.cells #[.int .i64 0, .int .i64 0, .int .i64 0, .int .i64 0, .int .i64 0, .int .u64 0, .int .i64 0] 24))
  generalize w3.alloc (.cells #[.int .i64 0, .int .i64 0, .int .i64 0, .int .i64 0, .int .i64 0, .int .u64 0, .int .i64 0] 24) = w4 at *
  generalize w3.heap.size = b2 at *
  go_wp2_with fail
  refine (H3.out _).mono ?_
  rintro e w5 ⟨rfl, hw5⟩
  replace HI1 := Lib.hid (HI1.out.below hw5 HI1.out.1)
  replace HB := Lib.hid (HB.out.trans (hw5.mono HB.out.size))
  clear hw5
  unfold insV
  go_upto_region 4 with (fail)
  replace HI1 := Lib.hid (HI1.out.alloc (.cells #[.int .i64 0, .int .i64 0, .int .i64 0, .int .i64 0, .int .i64 0, .int .u64 0, .int .i64 0] 24))
  replace HB := Lib.hid (HB.out.alloc HB.out.size (.cells #[.int .i64 0, .int .i64 0, .int .i64 0, .int .i64 0, .int .i64 0, .int .u64 0, .int .i64 0] 24))
  generalize w5.alloc (.cells #[.int .i64 0, .int .i64 0, .int .i64 0, .int .i64 0, .int .i64 0, .int .u64 0, .int .i64 0] 24) = w6 at *
  generalize w5.heap.size = b3 at *
  go_wp2_with fail
  refine (enc_ret _).mono ?_
  rintro e w7 ⟨g, off, c, rfl, hrow, hw7⟩
  replace HI1 := Lib.hid (HI1.out.below hw7 HI1.out.1)
  replace HB := Lib.hid (HB.out.trans (hw7.mono HB.out.size))
  obtain ⟨k0, k1, k2, k3, k4, k5, k6⟩ := res_cells HI1.out
  simp only at k0 k1 k2 k3 k4 k5 k6
  have hstr := run_str (cap := c) hrow
  rw [str_ret] at hstr
  clear hw7 hrow
  go_wp2
  go_ret
  exact ⟨rfl, HB.out⟩
end Go.Proofs.Ytimjpdheaecajaa
