/- law 8's At at no descriptors at all, and Made. · law 8: what is told, against what was asked for: the frames of ImpsBack. · law 8: what was asked for is made, and parsed. · law 8: what is handed in, and Few. · law 8: what is asked for is told as it was: the whole. -/
import Derived.Test.YtbjabncefhgefaaMgF
import Derived.Test.YtbjabncefhgefaaMgE
import Derived.BigQuiet
import Derived.Test.YtbjabncefhgefaaImpV
import Derived.Test.YtbjabncefhgefaaMgA
import Derived.Test.YtbjabncefhgefaaMask
namespace Go.Proofs.Ytbjabncefhgefaa
open Go.ChangeShapes Go.WideShapes Go.ChangeAt Go.RowKit
set_option linter.unusedVariables false
set_option linter.unusedSimpArgs false
set_option maxRecDepth 100000

set_option maxHeartbeats 8000000 in
theorem at8_loop0 (start D g c : Nat) (delay : Bool) (b : List Nat) (w x0 : World)
    (HO : Hid (OwnD x0 w.heap.size g c b)) (HB : Hid (Below w.heap.size w x0)) (Q : Exit → Act → World → Prop) (a : Act)
    (ha : Has 175 [0, 1, 2, 7, 8, 9] [.int .i64 start, .slice none 0 0, .bool delay, .int .i64 D, .int .i64 (0 : Nat), .slice (some ⟨g, 0, none⟩) b.length c] a) (hK : ∀ a' w' g' c', Has 175 [0, 1, 2, 7, 8, 9] [.int .i64 start, .slice none 0 0, .bool delay, .int .i64 D, .int .i64 (0 : Nat), .slice (some ⟨g', 0, none⟩) b.length c'] a' → OwnD w' w.heap.size g' c' b → Below w.heap.size w w' → Q .normal a' w') : (headS (dropS 5 bodyA8)).wp Try.prog Q a x0 := by
  obtain ⟨u, rfl⟩ := yopen_0_1_2_7_8_9 ha
  clear ha
  have HK := Lib.hid hK
  clear hK
  rw [shapeA8, shapeL8]
  generalize bodyD8 = S8 at *
  conv => arg 2; arg 1; whnf
  conv => arg 2; arg 2; arg 2; arg 1; arg 1; whnf
  conv => arg 2; arg 2; arg 2; arg 1; arg 2; arg 2; whnf
  go_wp2_with fail
  refine wp_loopS 175 [0, 1, 2, 7, 8] (fun k s wr => s 10 = .int .i64 (0 : Nat) ∧ s 9 = .slice (some ⟨g, 0, none⟩) b.length c ∧ wr = x0) 0 ⟨rfl, rfl, rfl⟩ ⟨rfl, rfl, rfl⟩ ?_
  intro gk a' wr hS hR J1 K3 hJ1 hK3
  have HJ1 := Lib.hid hJ1
  clear hJ1
  obtain ⟨u3, rfl⟩ := yopen_0_1_2_7_8 (v0 := .int .i64 start) (v1 := .slice none 0 0) (v2 := .bool delay) (v7 := .int .i64 D) (v8 := .int .i64 (0 : Nat)) ⟨hS.size, hS.dfr, hS.low.trans rfl⟩
  clear hS
  obtain ⟨h10, h9, rfl⟩ := hR
  have h10' : u3 10 = .int .i64 (0 : Nat) := h10
  have h9' : u3 9 = .slice (some ⟨g, 0, none⟩) b.length c := h9
  rw [h10', h9']
  clear h10 h9 h10' h9'
  go_wp2_with fail
  refine HK.out _ _ g c ⟨rfl, rfl, rfl⟩ HO.out HB.out

set_option maxHeartbeats 8000000 in
theorem at8_none (delay : Bool) (w : World) :
    Calls Try.prog 39 #[.int .i64 64, .slice none 0 0, .bool delay] w fun e w' => ∃ g c, e = .returned (.slice (some ⟨g, 0, none⟩) (at8 64 [] delay).length c) ∧ OwnD w' w.heap.size g c (at8 64 [] delay) ∧ Below w.heap.size w w' := by
  obtain ⟨D, hD⟩ : ∃ q, lenD delay = q := ⟨_, rfl⟩
  have hD2 : D = 20 ∨ D = 32 := by rw [← hD]; unfold lenD; split <;> omega
  obtain ⟨z, hz⟩ : ∃ q, 64 + D = q := ⟨_, rfl⟩
  have ez : (64 : Int) + (D : Int) = (z : Int) := by omega
  have wz : IntKind.i64.wrap (z : Int) = (z : Int) := by rw [IntKind.wrap_i64]; omega
  have HLOOP := Lib.hid (fun g c b x0 HO HB Q a ha hK => at8_loop0 64 D g c delay b w x0 HO HB Q a ha hK)
  have hat8 : List.replicate z 0 = at8 64 [] delay := by
    unfold at8
    simp only [List.take_nil, impF, List.length_nil, Nat.zero_min, Nat.zero_add, Nat.mul_one, hD, hz]
  rw [← hat8]
  clear hat8 hz
  have hD4 : D = if delay = true then 32 else 20 := hD.symm
  clear hD
  go_enter Try.func39, Try.ntmps39
  conv => arg 2; change bodyA8
  rw [shapeB8]
  generalize headS (dropS 5 bodyA8) = S8 at *
  conv => arg 2; arg 1; whnf
  conv => arg 2; arg 2; arg 1; whnf
  conv => arg 2; arg 2; arg 2; arg 1; whnf
  conv => arg 2; arg 2; arg 2; arg 2; arg 1; whnf
  conv => arg 2; arg 2; arg 2; arg 2; arg 2; arg 1; whnf
  conv => arg 2; arg 2; arg 2; arg 2; arg 2; arg 2; arg 2; whnf
  cases delay
  · simp only [if_true, if_false, Bool.false_eq_true] at hD4
    subst hD4
    obtain rfl : z = 84 := by omega
    clear ez
    go_wp2_with (first
      | (at_make; refine wpList_make_bytes _ rfl (.tmp 27) (.tmp 27) 24 rfl 5 (.int .u8 0) 1 (by kernel_rfl) (by kernel_rfl) rfl .i64 .i64 84 (by simp [Act.eval, Act.put] <;> rfl) (by simp [Act.eval, Act.put] <;> rfl) (by omega) (by omega) ?_; intro w1 hw1 ho1; have HW1 := Lib.hid hw1; have HO1 := Lib.hid (OwnD.noughts (base := w.heap.size) ho1 (Nat.le_refl _) (by omega)); clear hw1 ho1)
      | fail)
    refine HLOOP.out w.heap.size _ (List.replicate 84 0) w1 HO1 HW1 _ _ ⟨rfl, rfl, by rw [List.length_replicate]; rfl⟩ ?_
    intro a2 w2 g2 c2 ha2 ho2 hb2
    have HO2 := Lib.hid ho2
    have HB2 := Lib.hid hb2
    clear ho2 hb2
    obtain ⟨u, rfl⟩ := yopen_0_1_2_7_8_9 ha2
    clear ha2
    go_wp2_with fail
    refine ⟨rfl, .slice (some ⟨g2, 0, none⟩) _ c2, ?_, g2, c2, rfl, HO2.out, HB2.out⟩
    first | (go_simp; done) | rfl | (simp [results, Try.func39]; done) | kernel_rfl
  · simp only [if_true, if_false, Bool.false_eq_true] at hD4
    subst hD4
    obtain rfl : z = 96 := by omega
    clear ez
    go_wp2_with (first
      | (at_make; refine wpList_make_bytes _ rfl (.tmp 27) (.tmp 27) 24 rfl 5 (.int .u8 0) 1 (by kernel_rfl) (by kernel_rfl) rfl .i64 .i64 96 (by simp [Act.eval, Act.put] <;> rfl) (by simp [Act.eval, Act.put] <;> rfl) (by omega) (by omega) ?_; intro w1 hw1 ho1; have HW1 := Lib.hid hw1; have HO1 := Lib.hid (OwnD.noughts (base := w.heap.size) ho1 (Nat.le_refl _) (by omega)); clear hw1 ho1)
      | fail)
    refine HLOOP.out w.heap.size _ (List.replicate 96 0) w1 HO1 HW1 _ _ ⟨rfl, rfl, by rw [List.length_replicate]; rfl⟩ ?_
    intro a2 w2 g2 c2 ha2 ho2 hb2
    have HO2 := Lib.hid ho2
    have HB2 := Lib.hid hb2
    clear ho2 hb2
    obtain ⟨u, rfl⟩ := yopen_0_1_2_7_8_9 ha2
    clear ha2
    go_wp2_with fail
    refine ⟨rfl, .slice (some ⟨g2, 0, none⟩) _ c2, ?_, g2, c2, rfl, HO2.out, HB2.out⟩
    first | (go_simp; done) | rfl | (simp [results, Try.func39]; done) | kernel_rfl
theorem made8_none (delay : Bool) (w : World) :
    Calls Try.prog 20 #[.slice none 0 0, .bool delay] w fun e w' => ∃ g c, e = .returned (.slice (some ⟨g, 0, none⟩) (at8 64 [] delay).length c) ∧ OwnD w' w.heap.size g c (at8 64 [] delay) ∧ Below w.heap.size w w' := by
  have HA := Lib.hid (at8_none delay w)
  generalize at8 64 [] delay = img at *
  go_enter Try.func20, Try.ntmps20
  go_wp2_with fail
  refine HA.out.mono ?_
  rintro e w' ⟨g, c, rfl, ho, hw⟩
  have HO := Lib.hid ho
  have HW := Lib.hid hw
  clear ho hw
  go_wp2_with fail
  go_ret
  exact ⟨g, c, rfl, HO.out, HW.out⟩
end Go.Proofs.Ytbjabncefhgefaa
namespace Go.Proofs.Ytbjabncefhgefaa
open Go.ChangeShapes Go.WideShapes Go.ChangeAt Go.RowKit
set_option linter.unusedVariables false
set_option linter.unusedSimpArgs false
set_option maxRecDepth 100000

noncomputable def bodyK8 : Code := (Try.f9.body).getD .skip
/-- What ImpsBack is to come to. -/
def QK8 (w : World) : Exit → Act → World → Prop := bodyPost Try.prog Try.f9 fun e w' => e = .returned (.bool true) ∧ Below w.heap.size w w'
theorem range198 {α : Type} (f : Nat → α) : (List.range 198).map f = (f 0 :: f 1 :: f 2 :: f 3 :: f 4 :: f 5 :: f 6 :: f 7 :: f 8 :: f 9 :: f 10 :: f 11 :: f 12 :: f 13 :: f 14 :: f 15 :: f 16 :: f 17 :: f 18 :: f 19 :: f 20 :: f 21 :: f 22 :: f 23 :: f 24 :: f 25 :: f 26 :: f 27 :: f 28 :: f 29 :: f 30 :: f 31 :: f 32 :: f 33 :: f 34 :: f 35 :: f 36 :: f 37 :: f 38 :: f 39 :: f 40 :: f 41 :: f 42 :: f 43 :: f 44 :: f 45 :: f 46 :: f 47 :: f 48 :: f 49 :: f 50 :: f 51 :: f 52 :: f 53 :: f 54 :: f 55 :: f 56 :: f 57 :: f 58 :: f 59 :: f 60 :: f 61 :: f 62 :: f 63 :: f 64 :: f 65 :: f 66 :: f 67 :: f 68 :: f 69 :: f 70 :: f 71 :: f 72 :: f 73 :: f 74 :: f 75 :: f 76 :: f 77 :: f 78 :: f 79 :: f 80 :: f 81 :: f 82 :: f 83 :: f 84 :: f 85 :: f 86 :: f 87 :: f 88 :: f 89 :: f 90 :: f 91 :: f 92 :: f 93 :: f 94 :: f 95 :: f 96 :: f 97 :: f 98 :: f 99 :: f 100 :: f 101 :: f 102 :: f 103 :: f 104 :: f 105 :: f 106 :: f 107 :: f 108 :: f 109 :: f 110 :: f 111 :: f 112 :: f 113 :: f 114 :: f 115 :: f 116 :: f 117 :: f 118 :: f 119 :: f 120 :: f 121 :: f 122 :: f 123 :: f 124 :: f 125 :: f 126 :: f 127 :: f 128 :: f 129 :: f 130 :: f 131 :: f 132 :: f 133 :: f 134 :: f 135 :: f 136 :: f 137 :: f 138 :: f 139 :: f 140 :: f 141 :: f 142 :: f 143 :: f 144 :: f 145 :: f 146 :: f 147 :: f 148 :: f 149 :: f 150 :: f 151 :: f 152 :: f 153 :: f 154 :: f 155 :: f 156 :: f 157 :: f 158 :: f 159 :: f 160 :: f 161 :: f 162 :: f 163 :: f 164 :: f 165 :: f 166 :: f 167 :: f 168 :: f 169 :: f 170 :: f 171 :: f 172 :: f 173 :: f 174 :: f 175 :: f 176 :: f 177 :: f 178 :: f 179 :: f 180 :: f 181 :: f 182 :: f 183 :: f 184 :: f 185 :: f 186 :: f 187 :: f 188 :: f 189 :: f 190 :: f 191 :: f 192 :: f 193 :: f 194 :: f 195 :: f 196 :: f 197 :: []) := by rfl
theorem zopen_5_11_12 {a : Act} {v5 v11 v12 : Value} (h : Has 198 [5, 11, 12] [v5, v11, v12] a) : ∃ u : Nat → Value, a = ⟨(u 0 :: u 1 :: u 2 :: u 3 :: u 4 :: v5 :: u 6 :: u 7 :: u 8 :: u 9 :: u 10 :: v11 :: v12 :: u 13 :: u 14 :: u 15 :: u 16 :: u 17 :: u 18 :: u 19 :: u 20 :: u 21 :: u 22 :: u 23 :: u 24 :: u 25 :: u 26 :: u 27 :: u 28 :: u 29 :: u 30 :: u 31 :: u 32 :: u 33 :: u 34 :: u 35 :: u 36 :: u 37 :: u 38 :: u 39 :: u 40 :: u 41 :: u 42 :: u 43 :: u 44 :: u 45 :: u 46 :: u 47 :: u 48 :: u 49 :: u 50 :: u 51 :: u 52 :: u 53 :: u 54 :: u 55 :: u 56 :: u 57 :: u 58 :: u 59 :: u 60 :: u 61 :: u 62 :: u 63 :: u 64 :: u 65 :: u 66 :: u 67 :: u 68 :: u 69 :: u 70 :: u 71 :: u 72 :: u 73 :: u 74 :: u 75 :: u 76 :: u 77 :: u 78 :: u 79 :: u 80 :: u 81 :: u 82 :: u 83 :: u 84 :: u 85 :: u 86 :: u 87 :: u 88 :: u 89 :: u 90 :: u 91 :: u 92 :: u 93 :: u 94 :: u 95 :: u 96 :: u 97 :: u 98 :: u 99 :: u 100 :: u 101 :: u 102 :: u 103 :: u 104 :: u 105 :: u 106 :: u 107 :: u 108 :: u 109 :: u 110 :: u 111 :: u 112 :: u 113 :: u 114 :: u 115 :: u 116 :: u 117 :: u 118 :: u 119 :: u 120 :: u 121 :: u 122 :: u 123 :: u 124 :: u 125 :: u 126 :: u 127 :: u 128 :: u 129 :: u 130 :: u 131 :: u 132 :: u 133 :: u 134 :: u 135 :: u 136 :: u 137 :: u 138 :: u 139 :: u 140 :: u 141 :: u 142 :: u 143 :: u 144 :: u 145 :: u 146 :: u 147 :: u 148 :: u 149 :: u 150 :: u 151 :: u 152 :: u 153 :: u 154 :: u 155 :: u 156 :: u 157 :: u 158 :: u 159 :: u 160 :: u 161 :: u 162 :: u 163 :: u 164 :: u 165 :: u 166 :: u 167 :: u 168 :: u 169 :: u 170 :: u 171 :: u 172 :: u 173 :: u 174 :: u 175 :: u 176 :: u 177 :: u 178 :: u 179 :: u 180 :: u 181 :: u 182 :: u 183 :: u 184 :: u 185 :: u 186 :: u 187 :: u 188 :: u 189 :: u 190 :: u 191 :: u 192 :: u 193 :: u 194 :: u 195 :: u 196 :: u 197 :: []).toArray, []⟩ := by
  obtain ⟨⟨l⟩, d⟩ := a
  obtain ⟨hs, hd, hl⟩ := h
  have hs' : l.length = 198 := hs
  have hd' : d = [] := hd
  subst hd'
  simp only [at_, List.map_cons, List.map_nil, List.cons.injEq, and_true] at hl
  obtain ⟨e5, e11, e12⟩ := hl
  refine ⟨sl ⟨⟨l⟩, []⟩, ?_⟩
  have key := open_list l [] 198 hs'
  rw [range198] at key
  have u5 : sl ⟨⟨l⟩, []⟩ 5 = v5 := by unfold sl; rw [e5]; rfl
  have u11 : sl ⟨⟨l⟩, []⟩ 11 = v11 := by unfold sl; rw [e11]; rfl
  have u12 : sl ⟨⟨l⟩, []⟩ 12 = v12 := by unfold sl; rw [e12]; rfl
  have k2 : l = (sl ⟨⟨l⟩, []⟩ 0 :: sl ⟨⟨l⟩, []⟩ 1 :: sl ⟨⟨l⟩, []⟩ 2 :: sl ⟨⟨l⟩, []⟩ 3 :: sl ⟨⟨l⟩, []⟩ 4 :: v5 :: sl ⟨⟨l⟩, []⟩ 6 :: sl ⟨⟨l⟩, []⟩ 7 :: sl ⟨⟨l⟩, []⟩ 8 :: sl ⟨⟨l⟩, []⟩ 9 :: sl ⟨⟨l⟩, []⟩ 10 :: v11 :: v12 :: sl ⟨⟨l⟩, []⟩ 13 :: sl ⟨⟨l⟩, []⟩ 14 :: sl ⟨⟨l⟩, []⟩ 15 :: sl ⟨⟨l⟩, []⟩ 16 :: sl ⟨⟨l⟩, []⟩ 17 :: sl ⟨⟨l⟩, []⟩ 18 :: sl ⟨⟨l⟩, []⟩ 19 :: sl ⟨⟨l⟩, []⟩ 20 :: sl ⟨⟨l⟩, []⟩ 21 :: sl ⟨⟨l⟩, []⟩ 22 :: sl ⟨⟨l⟩, []⟩ 23 :: sl ⟨⟨l⟩, []⟩ 24 :: sl ⟨⟨l⟩, []⟩ 25 :: sl ⟨⟨l⟩, []⟩ 26 :: sl ⟨⟨l⟩, []⟩ 27 :: sl ⟨⟨l⟩, []⟩ 28 :: sl ⟨⟨l⟩, []⟩ 29 :: sl ⟨⟨l⟩, []⟩ 30 :: sl ⟨⟨l⟩, []⟩ 31 :: sl ⟨⟨l⟩, []⟩ 32 :: sl ⟨⟨l⟩, []⟩ 33 :: sl ⟨⟨l⟩, []⟩ 34 :: sl ⟨⟨l⟩, []⟩ 35 :: sl ⟨⟨l⟩, []⟩ 36 :: sl ⟨⟨l⟩, []⟩ 37 :: sl ⟨⟨l⟩, []⟩ 38 :: sl ⟨⟨l⟩, []⟩ 39 :: sl ⟨⟨l⟩, []⟩ 40 :: sl ⟨⟨l⟩, []⟩ 41 :: sl ⟨⟨l⟩, []⟩ 42 :: sl ⟨⟨l⟩, []⟩ 43 :: sl ⟨⟨l⟩, []⟩ 44 :: sl ⟨⟨l⟩, []⟩ 45 :: sl ⟨⟨l⟩, []⟩ 46 :: sl ⟨⟨l⟩, []⟩ 47 :: sl ⟨⟨l⟩, []⟩ 48 :: sl ⟨⟨l⟩, []⟩ 49 :: sl ⟨⟨l⟩, []⟩ 50 :: sl ⟨⟨l⟩, []⟩ 51 :: sl ⟨⟨l⟩, []⟩ 52 :: sl ⟨⟨l⟩, []⟩ 53 :: sl ⟨⟨l⟩, []⟩ 54 :: sl ⟨⟨l⟩, []⟩ 55 :: sl ⟨⟨l⟩, []⟩ 56 :: sl ⟨⟨l⟩, []⟩ 57 :: sl ⟨⟨l⟩, []⟩ 58 :: sl ⟨⟨l⟩, []⟩ 59 :: sl ⟨⟨l⟩, []⟩ 60 :: sl ⟨⟨l⟩, []⟩ 61 :: sl ⟨⟨l⟩, []⟩ 62 :: sl ⟨⟨l⟩, []⟩ 63 :: sl ⟨⟨l⟩, []⟩ 64 :: sl ⟨⟨l⟩, []⟩ 65 :: sl ⟨⟨l⟩, []⟩ 66 :: sl ⟨⟨l⟩, []⟩ 67 :: sl ⟨⟨l⟩, []⟩ 68 :: sl ⟨⟨l⟩, []⟩ 69 :: sl ⟨⟨l⟩, []⟩ 70 :: sl ⟨⟨l⟩, []⟩ 71 :: sl ⟨⟨l⟩, []⟩ 72 :: sl ⟨⟨l⟩, []⟩ 73 :: sl ⟨⟨l⟩, []⟩ 74 :: sl ⟨⟨l⟩, []⟩ 75 :: sl ⟨⟨l⟩, []⟩ 76 :: sl ⟨⟨l⟩, []⟩ 77 :: sl ⟨⟨l⟩, []⟩ 78 :: sl ⟨⟨l⟩, []⟩ 79 :: sl ⟨⟨l⟩, []⟩ 80 :: sl ⟨⟨l⟩, []⟩ 81 :: sl ⟨⟨l⟩, []⟩ 82 :: sl ⟨⟨l⟩, []⟩ 83 :: sl ⟨⟨l⟩, []⟩ 84 :: sl ⟨⟨l⟩, []⟩ 85 :: sl ⟨⟨l⟩, []⟩ 86 :: sl ⟨⟨l⟩, []⟩ 87 :: sl ⟨⟨l⟩, []⟩ 88 :: sl ⟨⟨l⟩, []⟩ 89 :: sl ⟨⟨l⟩, []⟩ 90 :: sl ⟨⟨l⟩, []⟩ 91 :: sl ⟨⟨l⟩, []⟩ 92 :: sl ⟨⟨l⟩, []⟩ 93 :: sl ⟨⟨l⟩, []⟩ 94 :: sl ⟨⟨l⟩, []⟩ 95 :: sl ⟨⟨l⟩, []⟩ 96 :: sl ⟨⟨l⟩, []⟩ 97 :: sl ⟨⟨l⟩, []⟩ 98 :: sl ⟨⟨l⟩, []⟩ 99 :: sl ⟨⟨l⟩, []⟩ 100 :: sl ⟨⟨l⟩, []⟩ 101 :: sl ⟨⟨l⟩, []⟩ 102 :: sl ⟨⟨l⟩, []⟩ 103 :: sl ⟨⟨l⟩, []⟩ 104 :: sl ⟨⟨l⟩, []⟩ 105 :: sl ⟨⟨l⟩, []⟩ 106 :: sl ⟨⟨l⟩, []⟩ 107 :: sl ⟨⟨l⟩, []⟩ 108 :: sl ⟨⟨l⟩, []⟩ 109 :: sl ⟨⟨l⟩, []⟩ 110 :: sl ⟨⟨l⟩, []⟩ 111 :: sl ⟨⟨l⟩, []⟩ 112 :: sl ⟨⟨l⟩, []⟩ 113 :: sl ⟨⟨l⟩, []⟩ 114 :: sl ⟨⟨l⟩, []⟩ 115 :: sl ⟨⟨l⟩, []⟩ 116 :: sl ⟨⟨l⟩, []⟩ 117 :: sl ⟨⟨l⟩, []⟩ 118 :: sl ⟨⟨l⟩, []⟩ 119 :: sl ⟨⟨l⟩, []⟩ 120 :: sl ⟨⟨l⟩, []⟩ 121 :: sl ⟨⟨l⟩, []⟩ 122 :: sl ⟨⟨l⟩, []⟩ 123 :: sl ⟨⟨l⟩, []⟩ 124 :: sl ⟨⟨l⟩, []⟩ 125 :: sl ⟨⟨l⟩, []⟩ 126 :: sl ⟨⟨l⟩, []⟩ 127 :: sl ⟨⟨l⟩, []⟩ 128 :: sl ⟨⟨l⟩, []⟩ 129 :: sl ⟨⟨l⟩, []⟩ 130 :: sl ⟨⟨l⟩, []⟩ 131 :: sl ⟨⟨l⟩, []⟩ 132 :: sl ⟨⟨l⟩, []⟩ 133 :: sl ⟨⟨l⟩, []⟩ 134 :: sl ⟨⟨l⟩, []⟩ 135 :: sl ⟨⟨l⟩, []⟩ 136 :: sl ⟨⟨l⟩, []⟩ 137 :: sl ⟨⟨l⟩, []⟩ 138 :: sl ⟨⟨l⟩, []⟩ 139 :: sl ⟨⟨l⟩, []⟩ 140 :: sl ⟨⟨l⟩, []⟩ 141 :: sl ⟨⟨l⟩, []⟩ 142 :: sl ⟨⟨l⟩, []⟩ 143 :: sl ⟨⟨l⟩, []⟩ 144 :: sl ⟨⟨l⟩, []⟩ 145 :: sl ⟨⟨l⟩, []⟩ 146 :: sl ⟨⟨l⟩, []⟩ 147 :: sl ⟨⟨l⟩, []⟩ 148 :: sl ⟨⟨l⟩, []⟩ 149 :: sl ⟨⟨l⟩, []⟩ 150 :: sl ⟨⟨l⟩, []⟩ 151 :: sl ⟨⟨l⟩, []⟩ 152 :: sl ⟨⟨l⟩, []⟩ 153 :: sl ⟨⟨l⟩, []⟩ 154 :: sl ⟨⟨l⟩, []⟩ 155 :: sl ⟨⟨l⟩, []⟩ 156 :: sl ⟨⟨l⟩, []⟩ 157 :: sl ⟨⟨l⟩, []⟩ 158 :: sl ⟨⟨l⟩, []⟩ 159 :: sl ⟨⟨l⟩, []⟩ 160 :: sl ⟨⟨l⟩, []⟩ 161 :: sl ⟨⟨l⟩, []⟩ 162 :: sl ⟨⟨l⟩, []⟩ 163 :: sl ⟨⟨l⟩, []⟩ 164 :: sl ⟨⟨l⟩, []⟩ 165 :: sl ⟨⟨l⟩, []⟩ 166 :: sl ⟨⟨l⟩, []⟩ 167 :: sl ⟨⟨l⟩, []⟩ 168 :: sl ⟨⟨l⟩, []⟩ 169 :: sl ⟨⟨l⟩, []⟩ 170 :: sl ⟨⟨l⟩, []⟩ 171 :: sl ⟨⟨l⟩, []⟩ 172 :: sl ⟨⟨l⟩, []⟩ 173 :: sl ⟨⟨l⟩, []⟩ 174 :: sl ⟨⟨l⟩, []⟩ 175 :: sl ⟨⟨l⟩, []⟩ 176 :: sl ⟨⟨l⟩, []⟩ 177 :: sl ⟨⟨l⟩, []⟩ 178 :: sl ⟨⟨l⟩, []⟩ 179 :: sl ⟨⟨l⟩, []⟩ 180 :: sl ⟨⟨l⟩, []⟩ 181 :: sl ⟨⟨l⟩, []⟩ 182 :: sl ⟨⟨l⟩, []⟩ 183 :: sl ⟨⟨l⟩, []⟩ 184 :: sl ⟨⟨l⟩, []⟩ 185 :: sl ⟨⟨l⟩, []⟩ 186 :: sl ⟨⟨l⟩, []⟩ 187 :: sl ⟨⟨l⟩, []⟩ 188 :: sl ⟨⟨l⟩, []⟩ 189 :: sl ⟨⟨l⟩, []⟩ 190 :: sl ⟨⟨l⟩, []⟩ 191 :: sl ⟨⟨l⟩, []⟩ 192 :: sl ⟨⟨l⟩, []⟩ 193 :: sl ⟨⟨l⟩, []⟩ 194 :: sl ⟨⟨l⟩, []⟩ 195 :: sl ⟨⟨l⟩, []⟩ 196 :: sl ⟨⟨l⟩, []⟩ 197 :: []) := by
    rw [← u5, ← u11, ← u12]
    exact key
  exact congrArg (fun x => (⟨⟨x⟩, []⟩ : Act)) k2
theorem zopen_1_5 {a : Act} {v1 v5 : Value} (h : Has 198 [1, 5] [v1, v5] a) : ∃ u : Nat → Value, a = ⟨(u 0 :: v1 :: u 2 :: u 3 :: u 4 :: v5 :: u 6 :: u 7 :: u 8 :: u 9 :: u 10 :: u 11 :: u 12 :: u 13 :: u 14 :: u 15 :: u 16 :: u 17 :: u 18 :: u 19 :: u 20 :: u 21 :: u 22 :: u 23 :: u 24 :: u 25 :: u 26 :: u 27 :: u 28 :: u 29 :: u 30 :: u 31 :: u 32 :: u 33 :: u 34 :: u 35 :: u 36 :: u 37 :: u 38 :: u 39 :: u 40 :: u 41 :: u 42 :: u 43 :: u 44 :: u 45 :: u 46 :: u 47 :: u 48 :: u 49 :: u 50 :: u 51 :: u 52 :: u 53 :: u 54 :: u 55 :: u 56 :: u 57 :: u 58 :: u 59 :: u 60 :: u 61 :: u 62 :: u 63 :: u 64 :: u 65 :: u 66 :: u 67 :: u 68 :: u 69 :: u 70 :: u 71 :: u 72 :: u 73 :: u 74 :: u 75 :: u 76 :: u 77 :: u 78 :: u 79 :: u 80 :: u 81 :: u 82 :: u 83 :: u 84 :: u 85 :: u 86 :: u 87 :: u 88 :: u 89 :: u 90 :: u 91 :: u 92 :: u 93 :: u 94 :: u 95 :: u 96 :: u 97 :: u 98 :: u 99 :: u 100 :: u 101 :: u 102 :: u 103 :: u 104 :: u 105 :: u 106 :: u 107 :: u 108 :: u 109 :: u 110 :: u 111 :: u 112 :: u 113 :: u 114 :: u 115 :: u 116 :: u 117 :: u 118 :: u 119 :: u 120 :: u 121 :: u 122 :: u 123 :: u 124 :: u 125 :: u 126 :: u 127 :: u 128 :: u 129 :: u 130 :: u 131 :: u 132 :: u 133 :: u 134 :: u 135 :: u 136 :: u 137 :: u 138 :: u 139 :: u 140 :: u 141 :: u 142 :: u 143 :: u 144 :: u 145 :: u 146 :: u 147 :: u 148 :: u 149 :: u 150 :: u 151 :: u 152 :: u 153 :: u 154 :: u 155 :: u 156 :: u 157 :: u 158 :: u 159 :: u 160 :: u 161 :: u 162 :: u 163 :: u 164 :: u 165 :: u 166 :: u 167 :: u 168 :: u 169 :: u 170 :: u 171 :: u 172 :: u 173 :: u 174 :: u 175 :: u 176 :: u 177 :: u 178 :: u 179 :: u 180 :: u 181 :: u 182 :: u 183 :: u 184 :: u 185 :: u 186 :: u 187 :: u 188 :: u 189 :: u 190 :: u 191 :: u 192 :: u 193 :: u 194 :: u 195 :: u 196 :: u 197 :: []).toArray, []⟩ := by
  obtain ⟨⟨l⟩, d⟩ := a
  obtain ⟨hs, hd, hl⟩ := h
  have hs' : l.length = 198 := hs
  have hd' : d = [] := hd
  subst hd'
  simp only [at_, List.map_cons, List.map_nil, List.cons.injEq, and_true] at hl
  obtain ⟨e1, e5⟩ := hl
  refine ⟨sl ⟨⟨l⟩, []⟩, ?_⟩
  have key := open_list l [] 198 hs'
  rw [range198] at key
  have u1 : sl ⟨⟨l⟩, []⟩ 1 = v1 := by unfold sl; rw [e1]; rfl
  have u5 : sl ⟨⟨l⟩, []⟩ 5 = v5 := by unfold sl; rw [e5]; rfl
  have k2 : l = (sl ⟨⟨l⟩, []⟩ 0 :: v1 :: sl ⟨⟨l⟩, []⟩ 2 :: sl ⟨⟨l⟩, []⟩ 3 :: sl ⟨⟨l⟩, []⟩ 4 :: v5 :: sl ⟨⟨l⟩, []⟩ 6 :: sl ⟨⟨l⟩, []⟩ 7 :: sl ⟨⟨l⟩, []⟩ 8 :: sl ⟨⟨l⟩, []⟩ 9 :: sl ⟨⟨l⟩, []⟩ 10 :: sl ⟨⟨l⟩, []⟩ 11 :: sl ⟨⟨l⟩, []⟩ 12 :: sl ⟨⟨l⟩, []⟩ 13 :: sl ⟨⟨l⟩, []⟩ 14 :: sl ⟨⟨l⟩, []⟩ 15 :: sl ⟨⟨l⟩, []⟩ 16 :: sl ⟨⟨l⟩, []⟩ 17 :: sl ⟨⟨l⟩, []⟩ 18 :: sl ⟨⟨l⟩, []⟩ 19 :: sl ⟨⟨l⟩, []⟩ 20 :: sl ⟨⟨l⟩, []⟩ 21 :: sl ⟨⟨l⟩, []⟩ 22 :: sl ⟨⟨l⟩, []⟩ 23 :: sl ⟨⟨l⟩, []⟩ 24 :: sl ⟨⟨l⟩, []⟩ 25 :: sl ⟨⟨l⟩, []⟩ 26 :: sl ⟨⟨l⟩, []⟩ 27 :: sl ⟨⟨l⟩, []⟩ 28 :: sl ⟨⟨l⟩, []⟩ 29 :: sl ⟨⟨l⟩, []⟩ 30 :: sl ⟨⟨l⟩, []⟩ 31 :: sl ⟨⟨l⟩, []⟩ 32 :: sl ⟨⟨l⟩, []⟩ 33 :: sl ⟨⟨l⟩, []⟩ 34 :: sl ⟨⟨l⟩, []⟩ 35 :: sl ⟨⟨l⟩, []⟩ 36 :: sl ⟨⟨l⟩, []⟩ 37 :: sl ⟨⟨l⟩, []⟩ 38 :: sl ⟨⟨l⟩, []⟩ 39 :: sl ⟨⟨l⟩, []⟩ 40 :: sl ⟨⟨l⟩, []⟩ 41 :: sl ⟨⟨l⟩, []⟩ 42 :: sl ⟨⟨l⟩, []⟩ 43 :: sl ⟨⟨l⟩, []⟩ 44 :: sl ⟨⟨l⟩, []⟩ 45 :: sl ⟨⟨l⟩, []⟩ 46 :: sl ⟨⟨l⟩, []⟩ 47 :: sl ⟨⟨l⟩, []⟩ 48 :: sl ⟨⟨l⟩, []⟩ 49 :: sl ⟨⟨l⟩, []⟩ 50 :: sl ⟨⟨l⟩, []⟩ 51 :: sl ⟨⟨l⟩, []⟩ 52 :: sl ⟨⟨l⟩, []⟩ 53 :: sl ⟨⟨l⟩, []⟩ 54 :: sl ⟨⟨l⟩, []⟩ 55 :: sl ⟨⟨l⟩, []⟩ 56 :: sl ⟨⟨l⟩, []⟩ 57 :: sl ⟨⟨l⟩, []⟩ 58 :: sl ⟨⟨l⟩, []⟩ 59 :: sl ⟨⟨l⟩, []⟩ 60 :: sl ⟨⟨l⟩, []⟩ 61 :: sl ⟨⟨l⟩, []⟩ 62 :: sl ⟨⟨l⟩, []⟩ 63 :: sl ⟨⟨l⟩, []⟩ 64 :: sl ⟨⟨l⟩, []⟩ 65 :: sl ⟨⟨l⟩, []⟩ 66 :: sl ⟨⟨l⟩, []⟩ 67 :: sl ⟨⟨l⟩, []⟩ 68 :: sl ⟨⟨l⟩, []⟩ 69 :: sl ⟨⟨l⟩, []⟩ 70 :: sl ⟨⟨l⟩, []⟩ 71 :: sl ⟨⟨l⟩, []⟩ 72 :: sl ⟨⟨l⟩, []⟩ 73 :: sl ⟨⟨l⟩, []⟩ 74 :: sl ⟨⟨l⟩, []⟩ 75 :: sl ⟨⟨l⟩, []⟩ 76 :: sl ⟨⟨l⟩, []⟩ 77 :: sl ⟨⟨l⟩, []⟩ 78 :: sl ⟨⟨l⟩, []⟩ 79 :: sl ⟨⟨l⟩, []⟩ 80 :: sl ⟨⟨l⟩, []⟩ 81 :: sl ⟨⟨l⟩, []⟩ 82 :: sl ⟨⟨l⟩, []⟩ 83 :: sl ⟨⟨l⟩, []⟩ 84 :: sl ⟨⟨l⟩, []⟩ 85 :: sl ⟨⟨l⟩, []⟩ 86 :: sl ⟨⟨l⟩, []⟩ 87 :: sl ⟨⟨l⟩, []⟩ 88 :: sl ⟨⟨l⟩, []⟩ 89 :: sl ⟨⟨l⟩, []⟩ 90 :: sl ⟨⟨l⟩, []⟩ 91 :: sl ⟨⟨l⟩, []⟩ 92 :: sl ⟨⟨l⟩, []⟩ 93 :: sl ⟨⟨l⟩, []⟩ 94 :: sl ⟨⟨l⟩, []⟩ 95 :: sl ⟨⟨l⟩, []⟩ 96 :: sl ⟨⟨l⟩, []⟩ 97 :: sl ⟨⟨l⟩, []⟩ 98 :: sl ⟨⟨l⟩, []⟩ 99 :: sl ⟨⟨l⟩, []⟩ 100 :: sl ⟨⟨l⟩, []⟩ 101 :: sl ⟨⟨l⟩, []⟩ 102 :: sl ⟨⟨l⟩, []⟩ 103 :: sl ⟨⟨l⟩, []⟩ 104 :: sl ⟨⟨l⟩, []⟩ 105 :: sl ⟨⟨l⟩, []⟩ 106 :: sl ⟨⟨l⟩, []⟩ 107 :: sl ⟨⟨l⟩, []⟩ 108 :: sl ⟨⟨l⟩, []⟩ 109 :: sl ⟨⟨l⟩, []⟩ 110 :: sl ⟨⟨l⟩, []⟩ 111 :: sl ⟨⟨l⟩, []⟩ 112 :: sl ⟨⟨l⟩, []⟩ 113 :: sl ⟨⟨l⟩, []⟩ 114 :: sl ⟨⟨l⟩, []⟩ 115 :: sl ⟨⟨l⟩, []⟩ 116 :: sl ⟨⟨l⟩, []⟩ 117 :: sl ⟨⟨l⟩, []⟩ 118 :: sl ⟨⟨l⟩, []⟩ 119 :: sl ⟨⟨l⟩, []⟩ 120 :: sl ⟨⟨l⟩, []⟩ 121 :: sl ⟨⟨l⟩, []⟩ 122 :: sl ⟨⟨l⟩, []⟩ 123 :: sl ⟨⟨l⟩, []⟩ 124 :: sl ⟨⟨l⟩, []⟩ 125 :: sl ⟨⟨l⟩, []⟩ 126 :: sl ⟨⟨l⟩, []⟩ 127 :: sl ⟨⟨l⟩, []⟩ 128 :: sl ⟨⟨l⟩, []⟩ 129 :: sl ⟨⟨l⟩, []⟩ 130 :: sl ⟨⟨l⟩, []⟩ 131 :: sl ⟨⟨l⟩, []⟩ 132 :: sl ⟨⟨l⟩, []⟩ 133 :: sl ⟨⟨l⟩, []⟩ 134 :: sl ⟨⟨l⟩, []⟩ 135 :: sl ⟨⟨l⟩, []⟩ 136 :: sl ⟨⟨l⟩, []⟩ 137 :: sl ⟨⟨l⟩, []⟩ 138 :: sl ⟨⟨l⟩, []⟩ 139 :: sl ⟨⟨l⟩, []⟩ 140 :: sl ⟨⟨l⟩, []⟩ 141 :: sl ⟨⟨l⟩, []⟩ 142 :: sl ⟨⟨l⟩, []⟩ 143 :: sl ⟨⟨l⟩, []⟩ 144 :: sl ⟨⟨l⟩, []⟩ 145 :: sl ⟨⟨l⟩, []⟩ 146 :: sl ⟨⟨l⟩, []⟩ 147 :: sl ⟨⟨l⟩, []⟩ 148 :: sl ⟨⟨l⟩, []⟩ 149 :: sl ⟨⟨l⟩, []⟩ 150 :: sl ⟨⟨l⟩, []⟩ 151 :: sl ⟨⟨l⟩, []⟩ 152 :: sl ⟨⟨l⟩, []⟩ 153 :: sl ⟨⟨l⟩, []⟩ 154 :: sl ⟨⟨l⟩, []⟩ 155 :: sl ⟨⟨l⟩, []⟩ 156 :: sl ⟨⟨l⟩, []⟩ 157 :: sl ⟨⟨l⟩, []⟩ 158 :: sl ⟨⟨l⟩, []⟩ 159 :: sl ⟨⟨l⟩, []⟩ 160 :: sl ⟨⟨l⟩, []⟩ 161 :: sl ⟨⟨l⟩, []⟩ 162 :: sl ⟨⟨l⟩, []⟩ 163 :: sl ⟨⟨l⟩, []⟩ 164 :: sl ⟨⟨l⟩, []⟩ 165 :: sl ⟨⟨l⟩, []⟩ 166 :: sl ⟨⟨l⟩, []⟩ 167 :: sl ⟨⟨l⟩, []⟩ 168 :: sl ⟨⟨l⟩, []⟩ 169 :: sl ⟨⟨l⟩, []⟩ 170 :: sl ⟨⟨l⟩, []⟩ 171 :: sl ⟨⟨l⟩, []⟩ 172 :: sl ⟨⟨l⟩, []⟩ 173 :: sl ⟨⟨l⟩, []⟩ 174 :: sl ⟨⟨l⟩, []⟩ 175 :: sl ⟨⟨l⟩, []⟩ 176 :: sl ⟨⟨l⟩, []⟩ 177 :: sl ⟨⟨l⟩, []⟩ 178 :: sl ⟨⟨l⟩, []⟩ 179 :: sl ⟨⟨l⟩, []⟩ 180 :: sl ⟨⟨l⟩, []⟩ 181 :: sl ⟨⟨l⟩, []⟩ 182 :: sl ⟨⟨l⟩, []⟩ 183 :: sl ⟨⟨l⟩, []⟩ 184 :: sl ⟨⟨l⟩, []⟩ 185 :: sl ⟨⟨l⟩, []⟩ 186 :: sl ⟨⟨l⟩, []⟩ 187 :: sl ⟨⟨l⟩, []⟩ 188 :: sl ⟨⟨l⟩, []⟩ 189 :: sl ⟨⟨l⟩, []⟩ 190 :: sl ⟨⟨l⟩, []⟩ 191 :: sl ⟨⟨l⟩, []⟩ 192 :: sl ⟨⟨l⟩, []⟩ 193 :: sl ⟨⟨l⟩, []⟩ 194 :: sl ⟨⟨l⟩, []⟩ 195 :: sl ⟨⟨l⟩, []⟩ 196 :: sl ⟨⟨l⟩, []⟩ 197 :: []) := by
    rw [← u1, ← u5]
    exact key
  exact congrArg (fun x => (⟨⟨x⟩, []⟩ : Act)) k2

theorem impsL_iat {b : List Nat} {n : Nat} {rd : List Nat → Nat → Ds} (hrd : ∀ o, (rd b o).iat < 4294967296) : ∀ (k o : Nat) (acc vs : List ImpV), impsL b n rd k o acc = some vs → (∀ v ∈ acc, v.iat < 4294967296) → ∀ v ∈ vs, v.iat < 4294967296 := by
  intro k
  induction k with
  | zero => intro o acc vs h; cases h
  | succ k ih =>
    intro o acc vs h ha
    rw [impsL] at h
    split at h
    · cases h; exact ha
    · split at h
      · split at h
        · cases h
        · rename_i v hv
          refine ih _ _ _ h fun u hu => ?_
          rcases List.mem_append.mp hu with h1 | h1
          · exact ha u h1
          · simp at h1
            subst h1
            unfold oneL at hv
            split at hv
            · cases hv
            · split at hv
              · split at hv
                · cases hv
                · split at hv
                  · cases hv
                  · cases hv; exact hrd o
              · cases hv
      · cases h
theorem parseI_iat {b : List Nat} (hb : Lb b) {delay : Bool} {rva : Nat} {vs : List ImpV} (h : parseI b rva (lenD delay) (rdD delay) = some vs) : ∀ v ∈ vs, v.iat < 4294967296 := by
  have e4 : (256 : Nat) ^ 4 = 4294967296 := rfl
  have hn := fun k => numL_lt (hb.drop k) 4
  rw [e4] at hn
  have hrd : ∀ o, (rdD delay b o).iat < 4294967296 := fun o => by
    cases delay
    · exact hn _
    · exact hn _
  unfold parseI at h
  split at h
  · cases h; intro v hv; simp at hv
  · exact impsL_iat hrd _ _ _ _ h (fun v hv => by simp at hv)
/-- What lies at one place of both rows. -/
theorem Told.at : ∀ {l : List PIm} {vs : List ImpV} {lo : Nat}, Told lo l vs → ∀ (h : l ≠ []), ∃ x l' v vs', l = x :: l' ∧ vs = v :: vs' ∧ v.dll = x.dll ∧ v.syms = x.syms ∧ lo ≤ v.iat ∧ Told (v.iat + 8 * x.syms.length) l' vs'
  | [], _, _, _, h => absurd rfl h
  | x :: l, v :: vs, _, ⟨h1, h2, h3, h4⟩, _ => ⟨x, l, v, vs, rfl, rfl, h1, h2, h3, h4⟩
  | _ :: _, [], _, h, _ => h.elim

set_option maxHeartbeats 8000000 in
theorem back_rows (n c c7 base base7 : Nat) (A A7 : Option Addr) (l : List PImA) (la : List ImpA) (w0 w6 : World) (hn : l.length = n) (hn7 : la.length = n) (hn16 : n ≤ 16)
    (HP : Hid (PRows w6 base (.slice A n c) l)) (HQ : Hid (ImpRows w6 base7 A7 c7 la)) (HT : Hid (Told 0 (l.map (·.v)) (la.map (·.v)))) (HI : Hid (∀ y ∈ la, y.v.iat < 4294967296 ∧ y.v.syms.length ≤ 64)) (HB : Hid (Below w0.heap.size w0 w6)) (a : Act)
    (ha : Has 198 [5, 11, 12] [.slice A n c, .slice A7 n c7, .int .i64 0] a) : (dropS 7 bodyK8).wp Try.prog (QK8 w0) a w6 := by
  obtain ⟨u, rfl⟩ := zopen_5_11_12 ha
  clear ha
  have HAW := Lib.hid awake8_any
  conv => arg 2; whnf
  have HN := Lib.hid hn
  have HN7 := Lib.hid hn7
  clear hn hn7
  go_wp2_with fail
  go_loopw [13, 14, 15] (fun v13 v14 _ W => ∃ i lo : Nat, i ≤ n ∧ v14 = .int .i64 i ∧ v13 = .int .i64 lo ∧ lo ≤ 8589934592 ∧ Told lo ((l.map (·.v)).drop i) ((la.map (·.v)).drop i) ∧ Below w6.heap.size w6 W) (fun _ v14 _ _ => n - (intOf v14).toNat)
  case atStart => exact ⟨0, 0, Nat.zero_le _, rfl, rfl, by omega, HT.out, Below.refl _ _⟩
  case round =>
    obtain ⟨i, lo, hi, rfl, rfl, hlo, htold, hbel⟩ := hrel
    have HBW := Lib.hid hbel
    have HTO := Lib.hid htold
    clear hbel htold HT
    by_cases hlt : i < n
    · have hil : i < l.length := by rw [HN.out]; exact hlt
      have hil7 : i < la.length := by rw [HN7.out]; exact hlt
      obtain ⟨xp, hxp⟩ : ∃ x, l[i] = x := ⟨_, rfl⟩
      obtain ⟨yp, hyp⟩ : ∃ y, la[i] = y := ⟨_, rfl⟩
      have hd1 : (l.map (·.v)).drop i = xp.v :: (l.map (·.v)).drop (i + 1) := by
        rw [List.drop_eq_getElem_cons (by rw [List.length_map]; exact hil), List.getElem_map, hxp]
      have hd2 : (la.map (·.v)).drop i = yp.v :: (la.map (·.v)).drop (i + 1) := by
        rw [List.drop_eq_getElem_cons (by rw [List.length_map]; exact hil7), List.getElem_map, hyp]
      have htold := HTO.out
      rw [hd1, hd2] at htold
      obtain ⟨t1, t2, t3, t4⟩ := htold
      have hiat := HI.out yp (by rw [← hyp]; exact List.getElem_mem hil7)
      obtain ⟨A', cap', hv, _, _, hl0 | ⟨g, hA, _, hg⟩⟩ := HP.out.1.form
      · rw [hl0] at hil; simp at hil
      obtain ⟨A'', cap'', hv7, _, _, hl0 | ⟨g7, hA7, _, hg7⟩⟩ := HQ.out.1.form
      · rw [hl0] at hil7; simp at hil7
      injection hv with hv hvn hvc
      injection hv7 with hv7 hvn7 hvc7
      clear hvn hvc hvn7 hvc7
      subst hv hA hv7 hA7
      have ho1 : OwnT pimC 2 w6 base 66 (.slice (some ⟨g, 0, none⟩) l.length c) l := by rw [HN.out]; exact HP.out.1
      have c0 := ho1.cell pimC_len i hil 0 (.string (txt xp.v.dll)) (by rw [hxp]; rfl)
      have c1 := ho1.cell pimC_len i hil 1 (.slice xp.A xp.v.syms.length xp.c) (by rw [hxp]; rfl)
      have d0 := HQ.out.1.cell impC_len i hil7 0 (.string (txt yp.v.dll)) (by rw [hyp]; rfl)
      have d1 := HQ.out.1.cell impC_len i hil7 1 (.int .i64 yp.v.iat) (by rw [hyp]; rfl)
      have d4 := HQ.out.1.cell impC_len i hil7 4 (.slice yp.A yp.v.syms.length yp.c) (by rw [hyp]; rfl)
      have hsx := (HP.out.2 xp (by rw [← hxp]; exact List.getElem_mem hil)).1
      have hsy := HQ.out.2 yp (by rw [← hyp]; exact List.getElem_mem hil7)
      rw [t2] at d4 hsy hiat
      rw [t1] at d0
      rw [Nat.add_zero] at c0 d0
      obtain ⟨ss, hss⟩ : ∃ ss, xp.v.syms = ss := ⟨_, rfl⟩
      rw [hss] at c1 d4 hsx hsy hiat t4
      obtain ⟨k, hk⟩ : ∃ k, ss.length = k := ⟨_, rfl⟩
      rw [hk] at c1 d4 hiat t4
      obtain ⟨S, hS⟩ : ∃ S, txt xp.v.dll = S := ⟨_, rfl⟩
      rw [hS] at c0 d0
      obtain ⟨ia, hia⟩ : ∃ q, yp.v.iat = q := ⟨_, rfl⟩
      rw [hia] at d1 hiat t3 t4
      obtain ⟨yA, hyA⟩ : ∃ q, yp.A = q := ⟨_, rfl⟩
      obtain ⟨yc, hyc⟩ : ∃ q, yp.c = q := ⟨_, rfl⟩
      obtain ⟨xA, hxA⟩ : ∃ q, xp.A = q := ⟨_, rfl⟩
      obtain ⟨xc, hxc⟩ : ∃ q, xp.c = q := ⟨_, rfl⟩
      rw [hyA] at hsy d4
      rw [hyc] at d4
      rw [hxA] at hsx c1
      rw [hxc] at c1
      obtain ⟨k8, hk8⟩ : ∃ q, 8 * k = q := ⟨_, rfl⟩
      obtain ⟨lo2, hlo2⟩ : ∃ q, ia + k8 = q := ⟨_, rfl⟩
      rw [hk8, hlo2] at t4
      have ek8 : (8 : Int) * (k : Int) = (k8 : Int) := by omega
      have wk8 : IntKind.i64.wrap (k8 : Int) = (k8 : Int) := by rw [IntKind.wrap_i64]; omega
      have elo2 : (ia : Int) + (k8 : Int) = (lo2 : Int) := by omega
      have wlo2 : IntKind.i64.wrap (lo2 : Int) = (lo2 : Int) := by rw [IntKind.wrap_i64]; omega
      have hk64 : k ≤ 64 := hiat.2
      have HLO2 := Lib.hid (show lo2 ≤ 8589934592 by omega)
      have hge : ¬ (ia : Int) < (lo : Int) := by omega
      have hin : (i : Int) < (n : Int) := by omega
      have HT4 := Lib.hid t4
      have HLT := Lib.hid hlt
      have HG := Lib.hid hg
      have HG7 := Lib.hid hg7
      have HC0 := Lib.hid c0
      have HC1 := Lib.hid c1
      have HD0 := Lib.hid d0
      have HD1 := Lib.hid d1
      have HD4 := Lib.hid d4
      have HSX := Lib.hid hsx
      have HSY := Lib.hid hsy
      have HK := Lib.hid hk
      clear hil hil7 hxp hyp hd1 hd2 t1 t2 t3 t4 hiat hg hg7 ho1 c0 c1 d0 d1 d4 hsx hsy hS hia hyA hyc hxA hxc hk8 hlo2 hlt hi hlo hss hk HTO
      have HF := Lib.hid (show ∀ W, Below w6.heap.size w6 W → W.cell? ⟨g, i * 2, none⟩ = some (.string S) ∧ W.cell? ⟨g, i * 2 + 1, none⟩ = some (.slice xA k xc) ∧ W.cell? ⟨g7, i * 5, none⟩ = some (.string S) ∧ W.cell? ⟨g7, i * 5 + 1, none⟩ = some (.int .i64 ia) ∧ W.cell? ⟨g7, i * 5 + 4, none⟩ = some (.slice yA k yc) from fun W hW =>
        ⟨(hW.cell (p := ⟨g, _, none⟩) HG.out).trans HC0.out, (hW.cell (p := ⟨g, _, none⟩) HG.out).trans HC1.out, (hW.cell (p := ⟨g7, _, none⟩) HG7.out).trans HD0.out, (hW.cell (p := ⟨g7, _, none⟩) HG7.out).trans HD1.out, (hW.cell (p := ⟨g7, _, none⟩) HG7.out).trans HD4.out⟩)
      obtain ⟨f0, f1, f2, f3, f4⟩ := HF.out wr HBW.out
      go_upto_region 28 with (fail)
      -- MARK28
      go_quiet (fail)
      have HBX := Lib.hid (show Below w6.heap.size w6 (wr.drewN nq) from HBW.out.trans ⟨rfl, rfl, rfl, Nat.le_refl _, fun _ _ => rfl⟩)
      -- MARK29
      clear f0 f1 f2 f3 f4 hge HBW
      go_wp2_with fail
      go_loopw [15] (fun v15 W => ∃ j : Nat, j ≤ k ∧ v15 = .int .i64 j ∧ Below w6.heap.size w6 W) (fun v15 _ => k - (intOf v15).toNat)
      case atStart => exact ⟨0, Nat.zero_le _, rfl, HBX.out⟩
      case round =>
        rename_i wr2
        obtain ⟨j, hj, rfl, hbel⟩ := hrel
        have HBW := Lib.hid hbel
        obtain ⟨f0, f1, f2, f3, f4⟩ := HF.out _ hbel
        clear hbel
        by_cases hjl : j < k
        · have hjs : j < ss.length := by rw [HK.out]; exact hjl
          rcases HSX.out with h0 | ⟨bx, ox, rfl, hbx, hcx⟩
          · rw [h0] at hjs; simp at hjs
          rcases HSY.out with h0 | ⟨by', oy, rfl, hby, hcy⟩
          · rw [h0] at hjs; simp at hjs
          obtain ⟨s, hs⟩ : ∃ s, ss[j] = s := ⟨_, rfl⟩
          have x0 := hcx j hjs 0 (.string (txt s.1)) (by rw [hs]; rfl)
          have x1 := hcx j hjs 1 (.int .i64 s.2.1) (by rw [hs]; rfl)
          have x2 := hcx j hjs 2 (.bool s.2.2) (by rw [hs]; rfl)
          have y0 := hcy j hjs 0 (.string (txt s.1)) (by rw [hs]; rfl)
          have y1 := hcy j hjs 1 (.int .i64 s.2.1) (by rw [hs]; rfl)
          have y2 := hcy j hjs 2 (.bool s.2.2) (by rw [hs]; rfl)
          have qx0 := (HBW.out.cell (p := ⟨bx, ox + j * 3, none⟩) hbx).trans x0
          have qx1 := (HBW.out.cell (p := ⟨bx, ox + j * 3 + 1, none⟩) hbx).trans x1
          have qx2 := (HBW.out.cell (p := ⟨bx, ox + j * 3 + 2, none⟩) hbx).trans x2
          have qy0 := (HBW.out.cell (p := ⟨by', oy + j * 3, none⟩) hby).trans y0
          have qy1 := (HBW.out.cell (p := ⟨by', oy + j * 3 + 1, none⟩) hby).trans y1
          have qy2 := (HBW.out.cell (p := ⟨by', oy + j * 3 + 2, none⟩) hby).trans y2
          clear x0 x1 x2 y0 y1 y2 hcx hcy hbx hby hs hjs
          generalize txt s.1 = T at *
          generalize ((s.2.1 : Nat) : Int) = o at *
          generalize s.2.2 = bb at *
          have hjk : (j : Int) < (k : Int) := by omega
          have HJL := Lib.hid hjl
          go_upto_region 33 with (fail)
          -- MARK33
          go_quiet (fail)
          go_wp2_with fail
          go_roundw
          case rel => exact ⟨j + 1, by have := HJL.out; omega, by simp, HBW.out.trans ⟨rfl, rfl, rfl, Nat.le_refl _, fun _ _ => rfl⟩⟩
          case measure =>
            have := HJL.out
            simp [intOf]
            omega
        · obtain rfl : j = k := by omega
          have hjj : ¬ (j : Int) < (j : Int) := by omega
          clear hj hjl
          go_upto_region 35 with (fail)
          -- MARK35
          go_quiet (fail)
          go_wp2_with fail
          go_roundw
          -- MARK36
          case rel => exact ⟨i + 1, lo2, by have := HLT.out; omega, by simp, rfl, HLO2.out, HT4.out, HBW.out.trans ⟨rfl, rfl, rfl, Nat.le_refl _, fun _ _ => rfl⟩⟩
          case measure =>
            have := HLT.out
            simp [intOf]
            omega
    · have hii : ¬ (i : Int) < (n : Int) := by omega
      clear HTO
      go_wp2_with fail
      refine (HAW.out _).mono ?_
      rintro e w9 ⟨rfl, hw9⟩
      have HBZ := Lib.hid (HB.out.trans ((HBW.out.trans (hw9.mono HBW.out.size)).mono HB.out.size))
      clear hw9
      go_wp2_with fail
      go_ret
      exact ⟨rfl, HBZ.out⟩
end Go.Proofs.Ytbjabncefhgefaa
namespace Go.Proofs.Ytbjabncefhgefaa
open Go.ChangeShapes Go.WideShapes Go.ChangeAt Go.RowKit
set_option linter.unusedVariables false
set_option linter.unusedSimpArgs false
set_option maxRecDepth 100000

theorem shapeK4 : dropS 4 bodyK8 = (headS (dropS 4 bodyK8)).seq ((headS (dropS 5 bodyK8)).seq ((headS (dropS 6 bodyK8)).seq (dropS 7 bodyK8))) := by kernel_rfl
theorem Told.mem : ∀ {l : List PIm} {vs : List ImpV} {lo : Nat}, Told lo l vs → ∀ v ∈ vs, ∃ x ∈ l, v.syms = x.syms
  | [], [], _, _, v, hv => by simp at hv
  | x :: l, u :: vs, _, ⟨h1, h2, h3, h4⟩, v, hv => by
    rcases List.mem_cons.mp hv with rfl | hv
    · exact ⟨x, by simp, h2⟩
    · obtain ⟨y, hy, he⟩ := h4.mem v hv
      exact ⟨y, by simp [hy], he⟩
  | _ :: _, [], _, h, _, _ => h.elim
  | [], _ :: _, _, h, _, _ => h.elim
/-- What may be laid and asked for. -/
def Fit8 (x : PIm) : Prop := PCan x ∧ PAsk x ∧ x.syms.length ≤ 64 ∧ PImOk x

set_option maxHeartbeats 8000000 in
theorem back_made (delay : Bool) (n c base : Nat) (A : Option Addr) (l : List PImA) (w0 wr : World) (hn : l.length = n) (hn16 : n ≤ 16) (HP : Hid (PRows wr base (.slice A n c) l)) (hA : l = [] → A = none ∧ c = 0) (HC : Hid (∀ y ∈ l, Fit8 y.v)) (HB : Hid (Below w0.heap.size w0 wr)) (a : Act)
    (ha : Has 198 [1, 5] [.bool delay, .slice A n c] a) : (dropS 4 bodyK8).wp Try.prog (QK8 w0) a wr := by
  obtain ⟨u, rfl⟩ := zopen_1_5 ha
  clear ha
  have hcan : ∀ x ∈ l.map (·.v), Fit8 x := fun x hx => by
    obtain ⟨y, hy, rfl⟩ := List.mem_map.mp hx
    exact HC.out y hy
  have hpar := parse_at8 delay (l.map (·.v)) (by rw [List.length_map]; omega) (fun x hx => (hcan x hx).1) (fun x hx => ⟨(hcan x hx).2.1, (hcan x hx).2.2.1⟩)
  rw [List.length_map, if_pos (by omega)] at hpar
  obtain ⟨vs, hpv, htold⟩ := hpar
  have hlen := (at8_spec delay 64 (l.map (·.v)) (by rw [List.length_map]; omega) (by omega) (by omega) (fun x hx => (hcan x hx).1)).2.1
  obtain ⟨I, hI⟩ : ∃ I, at8 64 (l.map (·.v)) delay = I := ⟨_, rfl⟩
  have hm : Calls Try.prog 20 #[.slice A n c, .bool delay] wr fun e w' => ∃ g c, e = .returned (.slice (some ⟨g, 0, none⟩) I.length c) ∧ OwnD w' wr.heap.size g c I ∧ Below wr.heap.size wr w' := by
    by_cases h0 : l = []
    · obtain ⟨rfl, rfl⟩ := hA h0
      subst h0
      simp at hn
      subst hn
      rw [← hI]
      exact made8_none delay wr
    · subst hn
      exact Made8.of (delay := delay) HP.out h0 (by omega) (fun y hy => (HC.out y hy).2.2.2) I hI wr (Below.refl _ _)
  rw [hI] at hpv hlen
  have HM := Lib.hid hm
  have HPV := Lib.hid hpv
  have HTOLD := Lib.hid htold
  have HLEN := Lib.hid hlen
  have HN := Lib.hid hn
  have HT7 := Lib.hid (fun c7 base7 A7 la w6 hn7 HP HQ HT HI HB a ha => back_rows n c c7 base base7 A A7 l la w0 w6 hn hn7 hn16 HP HQ HT HI HB a ha)
  have HSY := Lib.hid (show ∀ x ∈ l.map (·.v), x.syms.length ≤ 64 from fun x hx => (hcan x hx).2.2.1)
  clear hcan hpv htold hlen hm hn hI hA
  rw [shapeK4]
  generalize dropS 7 bodyK8 = T7 at *
  conv => arg 2; arg 1; whnf
  conv => arg 2; arg 2; arg 1; whnf
  conv => arg 2; arg 2; arg 2; arg 1; whnf
  go_wp2_with fail
  refine HM.out.mono ?_
  rintro e w6 ⟨g6, cc6, rfl, ho6, hw6⟩
  have HO6 := Lib.hid ho6
  have HB6 := Lib.hid (HB.out.trans (hw6.mono HB.out.size))
  have HP6 := Lib.hid (HP.out.below hw6)
  clear ho6 hw6 HM HB HP
  have HLB := Lib.hid HO6.out.lb
  cases delay
  · have HPA := Lib.hid (show Calls Try.prog 21 #[.slice (some ⟨g6, 0, none⟩) I.length cc6, .agg #[.int .i64 64, .int .i64 0]] w6 fun e w' => ImpQ w6 w' (parseI I 64 20 importD) e ∧ Below w6.heap.size w6 w' from imParse_any (some ⟨g6, 0, none⟩) cc6 I 64 0 w6 HO6.out.len HO6.out.most (by have := HLEN.out; omega) HO6.out.lb HO6.out.slB (by omega))
    go_wp2_with fail
    refine HPA.out.mono ?_
    rintro e w7 ⟨hq, hw7⟩
    have hq' : ImpQ w6 w7 (some vs) e := by
      have h := HPV.out
      have h' : parseI I 64 20 importD = some vs := h
      rw [h'] at hq
      exact hq
    have HB7 := Lib.hid (HB6.out.trans (hw7.mono HB6.out.size))
    have HP7 := Lib.hid (HP6.out.below hw7)
    clear hq hw7 HPA
    obtain ⟨A7, c7, la, rfl, hrows, hmap⟩ := hq'
    have hvl := HTOLD.out.len
    have hn7 : la.length = n := by
      rw [← hmap, List.length_map, List.length_map] at hvl
      rw [hvl, HN.out]
    have HRW := Lib.hid hrows
    have HTT := Lib.hid (show Told 0 (l.map (·.v)) (la.map (·.v)) from by rw [hmap]; exact HTOLD.out)
    have HII := Lib.hid (show ∀ y ∈ la, y.v.iat < 4294967296 ∧ y.v.syms.length ≤ 64 from fun y hy => by
      have hyv : y.v ∈ vs := by rw [← hmap]; exact List.mem_map_of_mem hy
      refine ⟨parseI_iat HLB.out HPV.out y.v hyv, ?_⟩
      obtain ⟨x, hx, he⟩ := HTOLD.out.mem y.v hyv
      rw [he]
      exact HSY.out x hx)
    rw [hn7]
    clear hrows hvl hmap
    go_wp2_with fail
    exact HT7.out c7 w6.heap.size A7 la w7 hn7 HP7 HRW HTT HII HB7 _ ⟨rfl, rfl, rfl⟩
  · have HPA := Lib.hid (show Calls Try.prog 21 #[.slice (some ⟨g6, 0, none⟩) I.length cc6, .agg #[.int .i64 64, .int .i64 0]] w6 fun e w' => ImpQ w6 w' (parseI I 64 20 importD) e ∧ Below w6.heap.size w6 w' from imParse_any (some ⟨g6, 0, none⟩) cc6 I 64 0 w6 HO6.out.len HO6.out.most (by have := HLEN.out; omega) HO6.out.lb HO6.out.slB (by omega))
    go_wp2_with fail
    refine HPA.out.mono ?_
    rintro e w7 ⟨hq, hw7⟩
    obtain ⟨A6, m6, c6, y6, rfl, _⟩ := hq.told
    have HO7 := Lib.hid (HO6.out.below hw7)
    have HB6' := Lib.hid (HB6.out.trans (hw7.mono HB6.out.size))
    have HP6' := Lib.hid (HP6.out.below hw7)
    clear hq hw7 HPA
    have HPD := Lib.hid (show Calls Try.prog 22 #[.slice (some ⟨g6, 0, none⟩) I.length cc6, .agg #[.int .i64 64, .int .i64 0]] w7 fun e w' => ImpQ w7 w' (parseI I 64 32 delayD) e ∧ Below w7.heap.size w7 w' from imDelays_any (some ⟨g6, 0, none⟩) cc6 I 64 0 w7 HO7.out.len HO7.out.most (by have := HLEN.out; omega) HO7.out.lb HO7.out.slB (by omega))
    go_wp2_with fail
    refine HPD.out.mono ?_
    rintro e w8 ⟨hq, hw8⟩
    have hq' : ImpQ w7 w8 (some vs) e := by
      have h := HPV.out
      have h' : parseI I 64 32 delayD = some vs := h
      rw [h'] at hq
      exact hq
    have HB7 := Lib.hid (HB6'.out.trans (hw8.mono HB6'.out.size))
    have HP7 := Lib.hid (HP6'.out.below hw8)
    clear hq hw8 HPD
    obtain ⟨A7, c7, la, rfl, hrows, hmap⟩ := hq'
    have hvl := HTOLD.out.len
    have hn7 : la.length = n := by
      rw [← hmap, List.length_map, List.length_map] at hvl
      rw [hvl, HN.out]
    have HRW := Lib.hid hrows
    have HTT := Lib.hid (show Told 0 (l.map (·.v)) (la.map (·.v)) from by rw [hmap]; exact HTOLD.out)
    have HII := Lib.hid (show ∀ y ∈ la, y.v.iat < 4294967296 ∧ y.v.syms.length ≤ 64 from fun y hy => by
      have hyv : y.v ∈ vs := by rw [← hmap]; exact List.mem_map_of_mem hy
      refine ⟨parseI_iat HLB.out HPV.out y.v hyv, ?_⟩
      obtain ⟨x, hx, he⟩ := HTOLD.out.mem y.v hyv
      rw [he]
      exact HSY.out x hx)
    rw [hn7]
    clear hrows hvl hmap
    go_wp2_with fail
    exact HT7.out c7 w7.heap.size A7 la w8 hn7 HP7 HRW HTT HII HB7 _ ⟨rfl, rfl, rfl⟩
end Go.Proofs.Ytbjabncefhgefaa
namespace Go.Proofs.Ytbjabncefhgefaa
open Go.ChangeShapes Go.WideShapes Go.ChangeAt Go.RowKit
set_option linter.unusedVariables false
set_option linter.unusedSimpArgs false
set_option maxRecDepth 100000

/-- What is handed in: of each its Dll, and its symbols. -/
structure ImpIn where
  D : Nat → ByteArray
  M : Nat → Nat
  SA : Nat → Option Addr
  SC : Nat → Nat
  T : Nat → Nat → ByteArray
  O : Nat → Nat → Int
  Y : Nat → Nat → Bool
/-- One descriptor's symbols lie there. -/
def SymsAt (w : World) (X : ImpIn) (i : Nat) : Prop := X.M i = 0 ∨ ∃ b off, X.SA i = some ⟨b, off, none⟩ ∧ b < w.heap.size ∧ ∀ j, j < X.M i → w.cell? ⟨b, off + j * 3, none⟩ = some (.string (X.T i j)) ∧ w.cell? ⟨b, off + j * 3 + 1, none⟩ = some (.int .i64 (X.O i j)) ∧ w.cell? ⟨b, off + j * 3 + 2, none⟩ = some (.bool (X.Y i j)) ∧ (X.T i j).size ≤ 9223372036854775807
theorem SymsAt.below {w w' : World} {X : ImpIn} {i : Nat} (h : SymsAt w X i) (hb : Below w.heap.size w w') : SymsAt w' X i := by
  rcases h with h | ⟨b, off, hA, hlt, hc⟩
  · exact .inl h
  · exact .inr ⟨b, off, hA, Nat.lt_of_lt_of_le hlt hb.size, fun j hj => ⟨(hb.cell (p := ⟨b, _, none⟩) hlt).trans (hc j hj).1, (hb.cell (p := ⟨b, _, none⟩) hlt).trans (hc j hj).2.1, (hb.cell (p := ⟨b, _, none⟩) hlt).trans (hc j hj).2.2.1, (hc j hj).2.2.2⟩⟩
def InAt (w : World) (A : Option Addr) (n : Nat) (X : ImpIn) : Prop := n = 0 ∨ ∃ b off, A = some ⟨b, off, none⟩ ∧ b < w.heap.size ∧ ∀ i, i < n → w.cell? ⟨b, off + i * 2, none⟩ = some (.string (X.D i)) ∧ w.cell? ⟨b, off + i * 2 + 1, none⟩ = some (.slice (X.SA i) (X.M i) (X.SC i)) ∧ (X.D i).size ≤ 9223372036854775807 ∧ X.M i ≤ 9223372036854775807 ∧ SymsAt w X i
theorem InAt.below {w w' : World} {A : Option Addr} {n : Nat} {X : ImpIn} (h : InAt w A n X) (hb : Below w.heap.size w w') : InAt w' A n X := by
  rcases h with h | ⟨b, off, hA, hlt, hc⟩
  · exact .inl h
  · exact .inr ⟨b, off, hA, Nat.lt_of_lt_of_le hlt hb.size, fun i hi => ⟨(hb.cell (p := ⟨b, _, none⟩) hlt).trans (hc i hi).1, (hb.cell (p := ⟨b, _, none⟩) hlt).trans (hc i hi).2.1, (hc i hi).2.2.1, (hc i hi).2.2.2.1, (hc i hi).2.2.2.2.below hb⟩⟩
def FewI (X : ImpIn) (i : Nat) : Prop := (X.D i).size ≤ 60 ∧ X.M i ≤ 70 ∧ ∀ j, j < X.M i → (X.T i j).size ≤ 80

set_option maxHeartbeats 4000000 in
theorem few8_any (A : Option Addr) (n cap : Nat) (X : ImpIn) (w : World) (h : InAt w A n X) (hn : n ≤ 9223372036854775807) :
    Calls Try.prog 25 #[.slice A n cap] w fun e w' => (e = .returned (.bool false) ∨ e = .returned (.bool true) ∧ n ≤ 20 ∧ ∀ i, i < n → FewI X i) ∧ w = w' := by
  have H := Lib.hid h
  clear h
  go_enter Try.func25, Try.ntmps25
  by_cases h20 : n ≤ 20
  · go_wp2_with fail
    go_loop [3, 4] (fun v3 _ => ∃ i : Nat, i ≤ n ∧ v3 = .int .i64 i ∧ Hid (∀ i', i' < i → FewI X i')) (fun v3 _ => n - (intOf v3).toNat)
    case atStart => exact ⟨0, Nat.zero_le _, rfl, Lib.hid (fun i' hi => by omega)⟩
    case round =>
      obtain ⟨i, hi, rfl, HD⟩ := hrel
      by_cases hlt : i < n
      · rcases H.out with h0 | ⟨b, off, rfl, hb, hc⟩
        · omega
        obtain ⟨c0, c1, hsz, hm, hsy⟩ := hc i hlt
        have HSY := Lib.hid hsy
        have hin : (i : Int) < (n : Int) := by omega
        clear hc hsy hb
        obtain ⟨S, hS⟩ : ∃ S, X.D i = S := ⟨_, rfl⟩
        obtain ⟨m, hm'⟩ : ∃ m, X.M i = m := ⟨_, rfl⟩
        obtain ⟨sa, hsa⟩ : ∃ q, X.SA i = q := ⟨_, rfl⟩
        obtain ⟨sc, hsc⟩ : ∃ q, X.SC i = q := ⟨_, rfl⟩
        rw [hS] at c0 hsz
        rw [hm', hsa, hsc] at c1
        rw [hm'] at hm
        have HE := Lib.hid (And.intro hS (And.intro hm' hsa))
        clear hS hm' hsa hsc
        have HLT := Lib.hid hlt
        clear hlt hi
        by_cases e1 : S.size ≤ 60
        · have f1 : ¬ (60 : Int) < (S.size : Int) := by omega
          by_cases e2 : m ≤ 70
          · have f2 : ¬ (70 : Int) < (m : Int) := by omega
            go_wp2_with fail
            go_loop [4] (fun v4 => ∃ j : Nat, j ≤ m ∧ v4 = .int .i64 j ∧ Hid (∀ j', j' < j → (X.T i j').size ≤ 80)) (fun v4 => m - (intOf v4).toNat)
            case atStart => exact ⟨0, Nat.zero_le _, rfl, Lib.hid (fun j' hj => by omega)⟩
            case round =>
              obtain ⟨j, hj, rfl, HJ⟩ := hrel
              by_cases hjl : j < m
              · rcases HSY.out with h0 | ⟨b', off', hA', hb', hc'⟩
                · rw [HE.out.2.1] at h0; omega
                obtain ⟨d0, d1, d2, hts⟩ := hc' j (by rw [HE.out.2.1]; exact hjl)
                rw [HE.out.2.2] at hA'
                subst hA'
                have hjm : (j : Int) < (m : Int) := by omega
                obtain ⟨T, hT⟩ : ∃ T, X.T i j = T := ⟨_, rfl⟩
                rw [hT] at d0 hts
                have HT := Lib.hid hT
                have HJL := Lib.hid hjl
                clear hc' hb' d1 d2 hT hjl hj
                by_cases e3 : T.size ≤ 80
                · have f3 : ¬ (80 : Int) < (T.size : Int) := by omega
                  go_wp2_with fail
                  go_round
                  case rel => exact ⟨j + 1, by have := HJL.out; omega, by simp, Lib.hid (fun j' hj' => by
                    rcases Nat.lt_or_ge j' j with h1 | h1
                    · exact HJ.out j' h1
                    · obtain rfl : j' = j := by omega
                      rw [HT.out]; exact e3)⟩
                  case measure =>
                    have := HJL.out
                    simp [intOf]
                    omega
                · have f3 : (80 : Int) < (T.size : Int) := by omega
                  go_wp2_with fail
                  go_ret
                  exact ⟨.inl rfl, rfl⟩
              · obtain rfl : j = m := by omega
                have hjj : ¬ (j : Int) < (j : Int) := by omega
                go_wp2_with fail
                go_round
                case rel => exact ⟨i + 1, by have := HLT.out; omega, by simp, Lib.hid (fun i' hi' => by
                  rcases Nat.lt_or_ge i' i with h1 | h1
                  · exact HD.out i' h1
                  · obtain rfl : i' = i := by omega
                    refine ⟨by rw [HE.out.1]; exact e1, by rw [HE.out.2.1]; exact e2, fun j' hj' => HJ.out j' (by rw [HE.out.2.1] at hj'; exact hj')⟩)⟩
                case measure =>
                  have := HLT.out
                  simp [intOf]
                  omega
          · have f2 : (70 : Int) < (m : Int) := by omega
            go_wp2_with fail
            go_ret
            exact ⟨.inl rfl, rfl⟩
        · have f1 : (60 : Int) < (S.size : Int) := by omega
          go_wp2_with fail
          go_ret
          exact ⟨.inl rfl, rfl⟩
      · obtain rfl : i = n := by omega
        have hii : ¬ (i : Int) < (i : Int) := by omega
        go_wp2_with fail
        go_ret
        exact ⟨.inr ⟨rfl, HD.out⟩, rfl⟩
  · have f0 : (20 : Int) < (n : Int) := by omega
    go_wp2_with fail
    go_ret
    exact ⟨.inl rfl, rfl⟩
end Go.Proofs.Ytbjabncefhgefaa
namespace Go.Proofs.Ytbjabncefhgefaa
open Go.ChangeShapes Go.WideShapes Go.ChangeAt Go.RowKit
set_option linter.unusedVariables false
set_option linter.unusedSimpArgs false
set_option maxRecDepth 100000

/-- A text's bytes. -/
def byt8 (S : ByteArray) : List Nat := S.data.toList.map UInt8.toNat
theorem byt8_lb (S : ByteArray) : Lb (byt8 S) := by
  intro v hv
  obtain ⟨x, _, rfl⟩ := List.mem_map.mp hv
  have := x.toNat_lt
  omega
theorem byt8_len (S : ByteArray) : (byt8 S).length = S.size := by
  unfold byt8
  rw [List.length_map, Array.length_toList]; rfl
theorem txt_byt8 (S : ByteArray) : txt (byt8 S) = S := by
  have h := txt_list (byt8_lb S)
  have h2 : (byt8 S).map UInt8.ofNat = S.data.toList := by
    unfold byt8
    rw [List.map_map]
    have : (UInt8.ofNat ∘ UInt8.toNat) = id := by funext x; simp
    rw [this, List.map_id]
  rw [h2, ByteArray.toList_eq] at h
  exact ByteArray.ext (Array.toList_inj.mp h)
theorem nameN_pos {c : Nat} (h : nameN c = true) : c ≠ 0 := by
  intro e
  subst e
  revert h
  decide
theorem okNm_parts {t : List Nat} (h : okNm t = true) : t.length ≤ 40 ∧ ∀ v ∈ t, v ≠ 0 := by
  simp only [okNm, Bool.and_eq_true, decide_eq_true_eq, List.all_eq_true] at h
  exact ⟨h.1.2, fun v hv => nameN_pos (h.2 v hv)⟩
theorem okSymL_parts {t : List Nat} (h : okSymL t = true) : t.length ≤ 60 ∧ ∀ v ∈ t, v ≠ 0 := by
  simp only [okSymL, Bool.and_eq_true, decide_eq_true_eq, List.all_eq_true] at h
  exact ⟨h.1.1.2, fun v hv => by have := (h.2 v hv).1; omega⟩
/-- A symbol that may be. -/
def SyFit (s : SymV) : Prop := SymCan s ∧ Lb s.1 ∧ s.1.length ≤ 100
theorem syFit_ord {o : Nat} (h : o < 65536) : SyFit ([], o, true) := ⟨.inl ⟨rfl, rfl, h⟩, fun v hv => by simp at hv, by simp⟩
theorem syFit_name {t : List Nat} (hb : Lb t) (h : okSymL t = true) : SyFit (t, 0, false) := by
  obtain ⟨h1, h2⟩ := okSymL_parts h
  exact ⟨.inr ⟨rfl, rfl, by show t.length ≤ 64; omega, h2, h⟩, hb, by show t.length ≤ 100; omega⟩
theorem fit8_of {t : List Nat} {ss : List SymV} (hb : Lb t) (h : okNm t = true) (hk : ss.length ≤ 64) (hs : ∀ s ∈ ss, SyFit s) : Fit8 ⟨t, ss⟩ := by
  obtain ⟨h1, h2⟩ := okNm_parts h
  refine ⟨⟨by show ss.length ≤ 70; omega, fun s hx => (hs s hx).2.2, by show t.length ≤ 100; omega, fun s hx hy => ?_⟩, ⟨h1, h2, h, fun s hx => (hs s hx).1⟩, hk, ⟨hb, by show t.length ≤ 100; omega⟩, fun s hx => (hs s hx).2, by show ss.length ≤ 100000; omega⟩
  rcases (hs s hx).1 with ⟨_, _, h3⟩ | ⟨h3, _⟩
  · exact h3
  · rw [h3] at hy; cases hy
theorem shapeK0 : bodyK8 = (headS bodyK8).seq ((headS (dropS 1 bodyK8)).seq ((headS (dropS 2 bodyK8)).seq ((headS (dropS 3 bodyK8)).seq (dropS 4 bodyK8)))) := by kernel_rfl

set_option maxHeartbeats 16000000 in
theorem iback_any (A : Option Addr) (n cap : Nat) (X : ImpIn) (delay : Bool) (w : World) (h : InAt w A n X) (hn : n ≤ 9223372036854775807) :
    Calls Try.prog 9 #[.slice A n cap, .bool delay] w fun e w' => e = .returned (.bool true) ∧ Below w.heap.size w w' := by
  have HAW := Lib.hid awake8_any
  have HFEW := Lib.hid (few8_any A n cap X w h hn)
  have HIN := Lib.hid h
  have HT4 := Lib.hid (fun n c base A l wr hn hn16 HP hA HC HB a ha => back_made delay n c base A l w wr hn hn16 HP hA HC HB a ha)
  clear h
  go_enter Try.func9, Try.ntmps9
  conv => arg 2; change bodyK8
  rw [shapeK0]
  generalize dropS 4 bodyK8 = T4 at *
  conv => arg 2; arg 1; whnf
  conv => arg 2; arg 2; arg 1; whnf
  conv => arg 2; arg 2; arg 2; arg 1; whnf
  conv => arg 2; arg 2; arg 2; arg 2; arg 1; whnf
  unfold QK8 at HT4
  go_wp2_with fail
  refine HFEW.out.mono ?_
  rintro e w' ⟨hq, rfl⟩
  rcases hq with rfl | ⟨rfl, h20, hfew⟩
  · clear HT4 HFEW HIN
    go_wp2_with fail
    refine (HAW.out _).mono ?_
    rintro e w9 ⟨rfl, hw9⟩
    have HBZ := Lib.hid hw9
    clear hw9
    go_wp2_with fail
    go_ret
    exact ⟨rfl, HBZ.out⟩
  have HFW := Lib.hid hfew
  clear hfew HFEW HAW hn
  go_upto_region 4 with (fail)
  go_wp2_with fail
  -- MARKA
  rename_i Q2 K2 hK2
  have HK2 := Lib.hid hK2
  clear hK2
  go_loopw [5, 6, 7, 8, 9] (fun v5 v6 _ _ _ wr => ∃ (i : Nat) (l : List PImA) (A5 : Option Addr) (c5 : Nat), i ≤ n ∧ i ≤ 16 ∧ v6 = .int .i64 i ∧ v5 = .slice A5 l.length c5 ∧ l.length ≤ i ∧ PRows wr w.heap.size (.slice A5 l.length c5) l ∧ (l = [] → A5 = none ∧ c5 = 0) ∧ (∀ y ∈ l, Fit8 y.v) ∧ Below w.heap.size w wr) (fun _ v6 _ _ _ _ => n - (intOf v6).toNat)
  case atStart => exact ⟨0, [], none, 0, Nat.zero_le _, Nat.zero_le _, rfl, rfl, Nat.le_refl _, PRows.nil _ _, fun _ => ⟨rfl, rfl⟩, fun y hy => by simp at hy, Below.refl _ _⟩
  case round =>
    obtain ⟨i, l, A5, c5, hi, hi16, rfl, rfl, hli, hpr, hnil, hfit, hbel⟩ := hrel
    have HPR := Lib.hid hpr
    have HNIL := Lib.hid hnil
    have HFT := Lib.hid hfit
    have HBW := Lib.hid hbel
    clear hpr hnil hfit hbel
    rename World => w0
    by_cases hlt : i < n ∧ i < 16
    · obtain ⟨hl1, hl2⟩ := hlt
      have hin : (i : Int) < (n : Int) := by omega
      have hi6 : (i : Int) < 16 := by omega
      rcases HIN.out with h0 | ⟨b, off, rfl, hb, hc⟩
      · omega
      obtain ⟨g1, g2, hsz, hmm, hsy⟩ := hc i hl1
      obtain ⟨e1, e2, e3⟩ := HFW.out i hl1
      have HC := Lib.hid (show ∀ W, Below w.heap.size w W → W.cell? ⟨b, off + i * 2, none⟩ = some (.string (X.D i)) ∧ W.cell? ⟨b, off + i * 2 + 1, none⟩ = some (.slice (X.SA i) (X.M i) (X.SC i)) ∧ SymsAt W X i from fun W hW => ⟨(hW.cell (p := ⟨b, _, none⟩) hb).trans g1, (hW.cell (p := ⟨b, _, none⟩) hb).trans g2, hsy.below hW⟩)
      have HE3 := Lib.hid e3
      have HLI := Lib.hid (And.intro hl1 (And.intro hl2 hli))
      have HNM := Lib.hid (fun W => rname_list (byt8 (X.D i)) W (byt8_lb _) (by rw [byt8_len]; omega))
      rw [txt_byt8] at HNM
      obtain ⟨ok, hok⟩ : ∃ q, okNm (byt8 (X.D i)) = q := ⟨_, rfl⟩
      rw [hok] at HNM
      have HOK := Lib.hid hok
      have hMb : X.M i ≤ 70 := e2
      have hDb : (X.D i).size ≤ 60 := e1
      clear hc g1 g2 hsz hmm hsy e1 e2 e3 hb hok hl1 hl2 hli hi hi16
      obtain ⟨S, hS⟩ : ∃ S, X.D i = S := ⟨_, rfl⟩
      obtain ⟨m, hm⟩ : ∃ m, X.M i = m := ⟨_, rfl⟩
      obtain ⟨sa, hsa⟩ : ∃ q, X.SA i = q := ⟨_, rfl⟩
      obtain ⟨sc, hsc⟩ : ∃ q, X.SC i = q := ⟨_, rfl⟩
      rw [hS, hm, hsa, hsc] at HC
      rw [hS] at HNM HOK hDb
      rw [hm] at hMb HE3
      have HSA := Lib.hid hsa
      have HM := Lib.hid hm
      clear hS hm hsa hsc
      obtain ⟨f0, f1, _⟩ := HC.out w0 HBW.out
      cases ok
      · clear HT4
        go_wp2_with fail
        refine (HNM.out _).mono ?_
        rintro e w' ⟨rfl, rfl⟩
        go_wp2_with fail
        go_roundw
        case rel => exact ⟨i + 1, l, A5, c5, by have := HLI.out; omega, by have := HLI.out; omega, by simp, rfl, by have := HLI.out; omega, HPR.out, HNIL.out, HFT.out, HBW.out⟩
        case measure =>
          have := HLI.out
          simp [intOf]
          omega
      · obtain ⟨w1, hw1⟩ : ∃ q, w0.alloc (.cells #[.string S, .slice none 0 0] 66) = q := ⟨_, rfl⟩
        have HE1 := Lib.hid hw1
        obtain ⟨xb, hxb⟩ : ∃ q, w0.heap.size = q := ⟨_, rfl⟩
        have HX1 := Lib.hid (show w1.heap[xb]? = some (.cells #[.string S, .slice none 0 0] 66 (0, 0)) from by rw [← hw1, ← hxb]; exact heap_alloc_new w0 _)
        have HW1 := Lib.hid (show Below xb w0 w1 from by rw [← hw1, ← hxb]; exact (Below.refl _ _).alloc (Nat.le_refl _) _)
        have HS1 := Lib.hid (show w1.heap.size = xb + 1 from by rw [← hw1, ← hxb]; simp)
        have HXB := Lib.hid hxb
        have HCB := Lib.hid (show ∀ W, Below xb w0 W → Below w.heap.size w W from fun W hW => HBW.out.trans (by rw [← hxb] at hW; exact hW.mono HBW.out.size))
        clear hw1
        go_upto_region 7 with (fail)
        -- MARKB
        go_wp2_with fail
        refine (HNM.out _).mono ?_
        rintro e w' ⟨rfl, rfl⟩
        go_upto_region 9 with (fail)
        -- MARKC
        refine (congrArg _ HE1.out).mpr ?_
        clear f0 f1 hxb
        go_wp2_with fail
        go_loopw [8, 9] (fun v8 _ W => ∃ (k : Nat) (s : List SymV) (A' : Option Addr) (c' : Nat), k ≤ m ∧ k ≤ 64 ∧ v8 = .int .i64 k ∧ s.length ≤ k ∧ (∀ y ∈ s, SyFit y) ∧ W.heap[xb]? = some (.cells #[.string S, .slice A' s.length c'] 66 (0, 0)) ∧ OwnT symC 3 W (xb + 1) 50 (.slice A' s.length c') s ∧ Below xb w0 W ∧ xb + 1 ≤ W.heap.size) (fun v8 _ _ => m - (intOf v8).toNat)
        case atStart => exact ⟨0, [], none, 0, Nat.zero_le _, Nat.zero_le _, rfl, Nat.le_refl _, fun y hy => by simp at hy, HX1.out, OwnT.nil _ _ _, HW1.out, by rw [HS1.out]; omega⟩
        case round =>
          obtain ⟨k, s, A', c', hk, hk64, rfl, hsk, hss, hrow, hown, hbel, hsz⟩ := hrel
          have HROW := Lib.hid hrow
          have HO := Lib.hid hown
          have HWW := Lib.hid hbel
          have HSZ := Lib.hid hsz
          have HSS := Lib.hid hss
          clear hrow hown hbel hsz hss HX1 HW1 HS1
          have x1 : wr.cell? ⟨xb, 1, none⟩ = some (.slice A' s.length c') := by rw [cell_of_row _ _ _ _ _ _ HROW.out]; rfl
          obtain ⟨f0, f1, hsy⟩ := HC.out wr (HCB.out wr HWW.out)
          by_cases hlt : k < m ∧ k < 64
          · obtain ⟨hk1, hk2⟩ := hlt
            have hkm : (k : Int) < (m : Int) := by omega
            have hk64' : (k : Int) < 64 := by omega
            rcases hsy with h0 | ⟨b', off', hA', hb', hc'⟩
            · rw [HM.out] at h0; omega
            rw [HSA.out] at hA'
            subst hA'
            obtain ⟨d0, d1, d2, hts⟩ := hc' k (by rw [HM.out]; exact hk1)
            have ht80 := HE3.out k hk1
            obtain ⟨T, hT⟩ : ∃ T, X.T i k = T := ⟨_, rfl⟩
            obtain ⟨o, ho⟩ : ∃ q, X.O i k = q := ⟨_, rfl⟩
            obtain ⟨yy, hyy⟩ : ∃ q, X.Y i k = q := ⟨_, rfl⟩
            rw [hT] at d0 ht80
            rw [ho] at d1
            rw [hyy] at d2
            obtain ⟨w2, hw2⟩ : ∃ q, wr.alloc (.cells #[.string T, .int .i64 o, .bool yy] 50) = q := ⟨_, rfl⟩
            have HE2 := Lib.hid hw2
            have h12 : Below wr.heap.size wr w2 := by rw [← hw2]; exact (Below.refl _ _).alloc (Nat.le_refl _) _
            have HR2 := Lib.hid (show w2.heap[xb]? = some (.cells #[.string S, .slice A' s.length c'] 66 (0, 0)) from (h12.block xb (lt_of_row' HROW.out)).trans HROW.out)
            have hrs : w2.heap[wr.heap.size]? = some (.cells #[.string T, .int .i64 o, .bool yy] 50 (0, 0)) := by rw [← hw2]; exact heap_alloc_new wr _
            have s0 : w2.cell? ⟨wr.heap.size, 0, none⟩ = some (.string T) := by rw [cell_of_row _ _ _ _ _ _ hrs]; rfl
            have s1 : w2.cell? ⟨wr.heap.size, 1, none⟩ = some (.int .i64 o) := by rw [cell_of_row _ _ _ _ _ _ hrs]; rfl
            have s2 : w2.cell? ⟨wr.heap.size, 2, none⟩ = some (.bool yy) := by rw [cell_of_row _ _ _ _ _ _ hrs]; rfl
            have x2 : w2.cell? ⟨xb, 1, none⟩ = some (.slice A' s.length c') := by rw [cell_of_row _ _ _ _ _ _ HR2.out]; rfl
            have HO2 := Lib.hid (HO.out.below h12)
            have HW2 := Lib.hid (show Below xb w0 w2 from HWW.out.trans (h12.mono (by have := HSZ.out; omega)))
            have HZ2 := Lib.hid (show xb + 1 ≤ w2.heap.size from Nat.le_trans HSZ.out h12.size)
            have HKK := Lib.hid (And.intro hk1 (And.intro hk2 hsk))
            have hs64 : s.length < 64 := by omega
            clear hw2 h12 hrs hc' hb' hT ho hyy hts HROW HO HWW HSZ hk1 hk2 hsk hk hk64
            go_upto_region 13 with (fail)
            -- MARKD
            refine (congrArg _ HE2.out).mpr ?_
            clear d0 d1 d2 x1 f0 f1
            cases yy
            · have HSM := Lib.hid (fun W => rsym_list (byt8 T) W (byt8_lb _) (by rw [byt8_len]; omega))
              rw [txt_byt8] at HSM
              obtain ⟨ok, hok⟩ : ∃ q, okSymL (byt8 T) = q := ⟨_, rfl⟩
              rw [hok] at HSM
              cases ok
              · go_wp2_with fail
                refine (HSM.out _).mono ?_
                rintro e w' ⟨rfl, rfl⟩
                go_wp2_with fail
                go_roundw
                case rel => exact ⟨k + 1, s, A', c', by have := HKK.out; omega, by have := HKK.out; omega, by simp, by have := HKK.out; omega, HSS.out, HR2.out, HO2.out, HW2.out, HZ2.out⟩
                case measure =>
                  have := HKK.out
                  simp [intOf]
                  omega
              · have HYF := Lib.hid (syFit_name (byt8_lb T) hok)
                clear hok
                go_upto_region 15 with (fail)
                go_wp2_with fail
                refine (HSM.out _).mono ?_
                rintro e w' ⟨rfl, rfl⟩
                -- MARKE
                have HG4 := Lib.hid (show s.length + 1 ≤ maxLen from by unfold maxLen; omega)
                have HG5 := Lib.hid (show (s.length + 1) * 32 ≤ 140737488355328 from by omega)
                have HA := Lib.hid (HO2.out.alloc (.cells #[.string T, .int .i64 (0 : Nat), .bool false] 50))
                have HY := Lib.hid (show ∀ j u, (symC (byt8 T, 0, false))[j]? = some u → (w2.alloc (.cells #[.string T, .int .i64 (0 : Nat), .bool false] 50)).cell? ⟨w2.heap.size, j, none⟩ = some u from by
                  have h := symCell1 (byt8 T, 0, false) w2
                  simp only [txt_byt8] at h
                  exact h)
                have HG6 := Lib.hid (show xb + 1 ≤ (w2.alloc (.cells #[.string T, .int .i64 (0 : Nat), .bool false] 50)).heap.size from by have := HZ2.out; simp; omega)
                have HR3 := Lib.hid ((Below.heap_alloc w2 (.cells #[.string T, .int .i64 (0 : Nat), .bool false] 50) xb (lt_of_row' HR2.out)).trans HR2.out)
                have HW3 := Lib.hid (HW2.out.alloc (by have := HZ2.out; omega) (.cells #[.string T, .int .i64 (0 : Nat), .bool false] 50))
                have HKR := Lib.hid (show ∀ w5, (w2.alloc (.cells #[.string T, .int .i64 (0 : Nat), .bool false] 50)).grownBy w5 (Value.slice A' s.length c').ownBlock → w5.heap[xb]? = some (.cells #[.string S, .slice A' s.length c'] 66 (0, 0)) from fun w5 hg => (hg.block xb (lt_of_row' HR3.out) (fun e => by have := (HA.out.lt xb e.symm).1; omega)).trans HR3.out)
                have HKB := Lib.hid (show ∀ w5, (w2.alloc (.cells #[.string T, .int .i64 (0 : Nat), .bool false] 50)).grownBy w5 (Value.slice A' s.length c').ownBlock → Below xb w0 w5 from fun w5 hg => HA.out.grew HW3.out (by omega) (by have := HG6.out; omega) hg)
                have HKC := Lib.hid (show ∀ w5 : World, w5.heap[xb]? = some (.cells #[.string S, .slice A' s.length c'] 66 (0, 0)) → w5.cell? ⟨xb, 1, none⟩ = some (.slice A' s.length c') ∧ w5.frozen? ⟨xb, 1, none⟩ = false from fun w5 h => ⟨by rw [cell_of_row _ _ _ _ _ _ h]; rfl, frozen_of_row _ _ _ _ _ h⟩)
                go_wp2_with (first
                  | (at_builtin; refine wpList_appT rfl (.tmp 80) (.tmp 84) 64 rfl (xb + 1) 50 _ 32 rfl infoSym rfl (by omega) symC_len symC_one _ s rfl HA.out w2.heap.size 1 rfl (byt8 T, 0, false) HY.out HG4.out HG5.out HG6.out ?_; intro g5 c6 w5 hown5 hg5 hat5
                     have HN5 := Lib.hid hown5
                     have HR5 := Lib.hid (HKR.out w5 hg5)
                     have HB5 := Lib.hid (HKB.out w5 hg5)
                     obtain ⟨hx5, hf5⟩ := HKC.out w5 HR5.out
                     clear hown5 hg5 hat5)
                  | fail)
                go_roundw
                case rel =>
                  refine ⟨k + 1, s ++ [(byt8 T, 0, false)], some ⟨g5, 0, none⟩, c6, by have := HKK.out; omega, by have := HKK.out; omega, by simp, by have := HKK.out; simp; omega, fun y hy => ?_, ?_, ?_, HB5.out.setCell (p := ⟨xb, 1, none⟩) (Nat.le_refl _) _, by rw [World.size_setCell]; have := lt_of_row' HR5.out; omega⟩
                  · rcases List.mem_append.mp hy with h | h
                    · exact HSS.out y h
                    · simp only [List.mem_singleton] at h; rw [h]; exact HYF.out
                  · rw [List.length_append, List.length_singleton]
                    exact heap_setCell_same w5 xb 1 _ _ _ HR5.out
                  · have h : OwnT symC 3 w5 (xb + 1) 50 (.slice (some ⟨g5, 0, none⟩) (s ++ [(byt8 T, 0, false)]).length c6) (s ++ [(byt8 T, 0, false)]) := by simpa using HN5.out
                    exact h.of_block fun k hk => heap_setCell_other w5 _ k _ (fun e => by have := (h.lt k hk).1; simp at e; omega)
                case measure =>
                  have := HKK.out
                  simp [intOf]
                  omega
            · obtain ⟨o', ho', m1⟩ : ∃ o' : Nat, o' < 65536 ∧ bits .and .i64 o 65535 = (o' : Int) := ⟨(o % 65536).toNat, by omega, by rw [and_ffff]; omega⟩
              have HYF := Lib.hid (syFit_ord ho')
              -- MARKF
              have HG4 := Lib.hid (show s.length + 1 ≤ maxLen from by unfold maxLen; omega)
              have HG5 := Lib.hid (show (s.length + 1) * 32 ≤ 140737488355328 from by omega)
              have HA := Lib.hid (HO2.out.alloc (.cells #[.string ⟨#[]⟩, .int .i64 o', .bool true] 50))
              have HY := Lib.hid (show ∀ j u, (symC ([], o', true))[j]? = some u → (w2.alloc (.cells #[.string ⟨#[]⟩, .int .i64 o', .bool true] 50)).cell? ⟨w2.heap.size, j, none⟩ = some u from by
                have h := symCell1 ([], o', true) w2
                simp only [txt8_e] at h
                exact h)
              have HG6 := Lib.hid (show xb + 1 ≤ (w2.alloc (.cells #[.string ⟨#[]⟩, .int .i64 o', .bool true] 50)).heap.size from by have := HZ2.out; simp; omega)
              have HR3 := Lib.hid ((Below.heap_alloc w2 (.cells #[.string ⟨#[]⟩, .int .i64 o', .bool true] 50) xb (lt_of_row' HR2.out)).trans HR2.out)
              have HW3 := Lib.hid (HW2.out.alloc (by have := HZ2.out; omega) (.cells #[.string ⟨#[]⟩, .int .i64 o', .bool true] 50))
              have HKR := Lib.hid (show ∀ w5, (w2.alloc (.cells #[.string ⟨#[]⟩, .int .i64 o', .bool true] 50)).grownBy w5 (Value.slice A' s.length c').ownBlock → w5.heap[xb]? = some (.cells #[.string S, .slice A' s.length c'] 66 (0, 0)) from fun w5 hg => (hg.block xb (lt_of_row' HR3.out) (fun e => by have := (HA.out.lt xb e.symm).1; omega)).trans HR3.out)
              have HKB := Lib.hid (show ∀ w5, (w2.alloc (.cells #[.string ⟨#[]⟩, .int .i64 o', .bool true] 50)).grownBy w5 (Value.slice A' s.length c').ownBlock → Below xb w0 w5 from fun w5 hg => HA.out.grew HW3.out (by omega) (by have := HG6.out; omega) hg)
              have HKC := Lib.hid (show ∀ w5 : World, w5.heap[xb]? = some (.cells #[.string S, .slice A' s.length c'] 66 (0, 0)) → w5.cell? ⟨xb, 1, none⟩ = some (.slice A' s.length c') ∧ w5.frozen? ⟨xb, 1, none⟩ = false from fun w5 h => ⟨by rw [cell_of_row _ _ _ _ _ _ h]; rfl, frozen_of_row _ _ _ _ _ h⟩)
              go_wp2_with (first
                | (at_builtin; refine wpList_appT rfl (.tmp 68) (.tmp 73) 64 rfl (xb + 1) 50 _ 32 rfl infoSym rfl (by omega) symC_len symC_one _ s rfl HA.out w2.heap.size 1 rfl ([], o', true) HY.out HG4.out HG5.out HG6.out ?_; intro g5 c6 w5 hown5 hg5 hat5
                   have HN5 := Lib.hid hown5
                   have HR5 := Lib.hid (HKR.out w5 hg5)
                   have HB5 := Lib.hid (HKB.out w5 hg5)
                   obtain ⟨hx5, hf5⟩ := HKC.out w5 HR5.out
                   clear hown5 hg5 hat5)
                | fail)
              go_roundw
              case rel =>
                refine ⟨k + 1, s ++ [([], o', true)], some ⟨g5, 0, none⟩, c6, by have := HKK.out; omega, by have := HKK.out; omega, by simp, by have := HKK.out; simp; omega, fun y hy => ?_, ?_, ?_, HB5.out.setCell (p := ⟨xb, 1, none⟩) (Nat.le_refl _) _, by rw [World.size_setCell]; have := lt_of_row' HR5.out; omega⟩
                · rcases List.mem_append.mp hy with h | h
                  · exact HSS.out y h
                  · simp only [List.mem_singleton] at h; rw [h]; exact HYF.out
                · rw [List.length_append, List.length_singleton]
                  exact heap_setCell_same w5 xb 1 _ _ _ HR5.out
                · have h : OwnT symC 3 w5 (xb + 1) 50 (.slice (some ⟨g5, 0, none⟩) (s ++ [([], o', true)]).length c6) (s ++ [([], o', true)]) := by simpa using HN5.out
                  exact h.of_block fun k hk => heap_setCell_other w5 _ k _ (fun e => by have := (h.lt k hk).1; simp at e; omega)
              case measure =>
                have := HKK.out
                simp [intOf]
                omega
          · have HKN := Lib.hid hk64
            have HSL := Lib.hid (show SlT symC 3 wr A' s from HO.out.sl symC_len)
            have HSB := Lib.hid (show ∀ b, A'.map (·.block) = some b → s ≠ [] → xb + 1 ≤ b from fun b hb _ => by
              have h := HO.out.lt b (by
                rcases A' with _ | a
                · simp at hb
                · simp at hb ⊢; simp [Value.ownBlock, hb])
              exact h.1)
            have hwx : Below xb w0 wr := HWW.out
            rw [← HXB.out] at hwx
            have HPW := Lib.hid (HPR.out.below hwx)
            have HBV := Lib.hid (HBW.out.trans (hwx.mono HBW.out.size))
            have HOW := Lib.hid (fun b (hb : (Value.slice A5 l.length c5).ownBlock = some b) => show b < xb from by
              have := (HPR.out.1.lt b hb).2
              rw [HXB.out] at this
              exact this)
            have x0 : wr.cell? ⟨xb, 0, none⟩ = some (.string S) := by rw [cell_of_row _ _ _ _ _ _ HROW.out]; rfl
            have HA := Lib.hid (HPW.out.1.alloc (.cells #[.string S, .slice A' s.length c'] 66))
            have HY := Lib.hid (show ∀ j u, (pimC ⟨⟨byt8 S, s⟩, A', c'⟩)[j]? = some u → (wr.alloc (.cells #[.string S, .slice A' s.length c'] 66)).cell? ⟨wr.heap.size, j, none⟩ = some u from by
              have h := pimCells ⟨⟨byt8 S, s⟩, A', c'⟩ wr
              simp only [txt_byt8] at h
              exact h)
            have HG4 := Lib.hid (show l.length + 1 ≤ maxLen from by have := HLI.out; unfold maxLen; omega)
            have HG5 := Lib.hid (show (l.length + 1) * 40 ≤ 140737488355328 from by have := HLI.out; omega)
            have HG6 := Lib.hid (show w.heap.size ≤ (wr.alloc (.cells #[.string S, .slice A' s.length c'] 66)).heap.size from by have := HBV.out.size; simp; omega)
            have HPA := Lib.hid (HPW.out.below ((Below.refl wr.heap.size wr).alloc (Nat.le_refl _) (.cells #[.string S, .slice A' s.length c'] 66)))
            have HSA2 := Lib.hid (HSL.out.below ((Below.refl wr.heap.size wr).alloc (Nat.le_refl _) (.cells #[.string S, .slice A' s.length c'] 66)))
            have HBA := Lib.hid (HBV.out.alloc HBV.out.size (.cells #[.string S, .slice A' s.length c'] 66))
            have HFI := Lib.hid (fit8_of (byt8_lb S) HOK.out (show s.length ≤ 64 by omega) HSS.out)
            clear hwx hsy hsk hk hk64
            by_cases hkm : k < m
            · have hkm' : (k : Int) < (m : Int) := by omega
              have hk6 : ¬ (k : Int) < 64 := by omega
              go_wp2_with (first
                | (at_builtin; refine wpList_appT rfl (.tmp 87) (.tmp 89) 63 rfl w.heap.size 66 _ 40 rfl infoPImp rfl (by omega) pimC_len pimC_one _ l rfl HA.out wr.heap.size 1 rfl ⟨⟨byt8 S, s⟩, A', c'⟩ HY.out HG4.out HG5.out HG6.out ?_; intro g5 c6 w5 hown5 hg5 hat5
                   have HN5 := Lib.hid hown5
                   have HG7 := Lib.hid (show World.grownBy _ w5 (Value.slice A5 l.length c5).ownBlock from hg5)
                   have HAT := Lib.hid (show (Value.slice A5 l.length c5).ownBlock = some g5 ∨ g5 = _ from hat5)
                   clear hown5 hg5 hat5)
                | fail)
              have HP5 := Lib.hid (HPA.out.app (y := ⟨⟨byt8 S, s⟩, A', c'⟩) HSA2.out (fun hne b hb hk => by
                have h1 := HOW.out b hk
                have h2 := HSB.out b hb hne
                omega) HN5.out HG7.out HAT.out)
              have HB5 := Lib.hid (HPA.out.1.grew HBA.out (Nat.le_refl _) HBA.out.size HG7.out)
              go_roundw
              case rel =>
                refine ⟨i + 1, l ++ [⟨⟨byt8 S, s⟩, A', c'⟩], some ⟨g5, 0, none⟩, c6, by have := HLI.out; omega, by have := HLI.out; omega, by simp, by simp, by have := HLI.out; simp; omega, HP5.out, fun h => by simp at h, fun y hy => ?_, HB5.out⟩
                rcases List.mem_append.mp hy with h | h
                · exact HFT.out y h
                · simp only [List.mem_singleton] at h; rw [h]; exact HFI.out
              case measure =>
                have := HLI.out
                simp [intOf]
                omega
            · have hkm' : ¬ (k : Int) < (m : Int) := by omega
              go_wp2_with (first
                | (at_builtin; refine wpList_appT rfl (.tmp 87) (.tmp 89) 63 rfl w.heap.size 66 _ 40 rfl infoPImp rfl (by omega) pimC_len pimC_one _ l rfl HA.out wr.heap.size 1 rfl ⟨⟨byt8 S, s⟩, A', c'⟩ HY.out HG4.out HG5.out HG6.out ?_; intro g5 c6 w5 hown5 hg5 hat5
                   have HN5 := Lib.hid hown5
                   have HG7 := Lib.hid (show World.grownBy _ w5 (Value.slice A5 l.length c5).ownBlock from hg5)
                   have HAT := Lib.hid (show (Value.slice A5 l.length c5).ownBlock = some g5 ∨ g5 = _ from hat5)
                   clear hown5 hg5 hat5)
                | fail)
              have HP5 := Lib.hid (HPA.out.app (y := ⟨⟨byt8 S, s⟩, A', c'⟩) HSA2.out (fun hne b hb hk => by
                have h1 := HOW.out b hk
                have h2 := HSB.out b hb hne
                omega) HN5.out HG7.out HAT.out)
              have HB5 := Lib.hid (HPA.out.1.grew HBA.out (Nat.le_refl _) HBA.out.size HG7.out)
              go_roundw
              case rel =>
                refine ⟨i + 1, l ++ [⟨⟨byt8 S, s⟩, A', c'⟩], some ⟨g5, 0, none⟩, c6, by have := HLI.out; omega, by have := HLI.out; omega, by simp, by simp, by have := HLI.out; simp; omega, HP5.out, fun h => by simp at h, fun y hy => ?_, HB5.out⟩
                rcases List.mem_append.mp hy with h | h
                · exact HFT.out y h
                · simp only [List.mem_singleton] at h; rw [h]; exact HFI.out
              case measure =>
                have := HLI.out
                simp [intOf]
                omega
    · replace HT4 := Lib.hid (HT4.out l.length c5 w.heap.size A5 l w0 rfl (by omega) HPR HNIL.out HFT HBW)
      clear HFW HIN HPR HNIL HFT
      by_cases hin : i < n
      · have hin' : (i : Int) < (n : Int) := by omega
        have hi6 : ¬ (i : Int) < 16 := by omega
        go_wp2_with fail
        refine HK2.out _ _ ?_
        exact HT4.out _ ⟨rfl, rfl, rfl⟩
      · have hin' : ¬ (i : Int) < (n : Int) := by omega
        go_wp2_with fail
        refine HK2.out _ _ ?_
        exact HT4.out _ ⟨rfl, rfl, rfl⟩
end Go.Proofs.Ytbjabncefhgefaa
