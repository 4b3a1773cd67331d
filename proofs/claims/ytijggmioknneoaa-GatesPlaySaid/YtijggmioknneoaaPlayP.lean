/- law 23: GatesPlay: what an act is told to be. -/
import Derived.Test.YtijggmioknneoaaPlayO
namespace Go.Proofs.Ytijggmioknneoaa
open Go.ChangeShapes Go.WideShapes Go.ChangeAt Go.RowKit
set_option linter.unusedVariables false
set_option linter.unusedSimpArgs false
set_option maxRecDepth 100000

theorem topen_0_3_4_5_6_7_8_9_10 {a : Act} {v0 v3 v4 v5 v6 v7 v8 v9 v10 : Value} (h : Has 246 [0, 3, 4, 5, 6, 7, 8, 9, 10] [v0, v3, v4, v5, v6, v7, v8, v9, v10] a) : ∃ u : Nat → Value, a = ⟨(v0 :: u 1 :: u 2 :: v3 :: v4 :: v5 :: v6 :: v7 :: v8 :: v9 :: v10 :: u 11 :: u 12 :: u 13 :: u 14 :: u 15 :: u 16 :: u 17 :: u 18 :: u 19 :: u 20 :: u 21 :: u 22 :: u 23 :: u 24 :: u 25 :: u 26 :: u 27 :: u 28 :: u 29 :: u 30 :: u 31 :: u 32 :: u 33 :: u 34 :: u 35 :: u 36 :: u 37 :: u 38 :: u 39 :: u 40 :: u 41 :: u 42 :: u 43 :: u 44 :: u 45 :: u 46 :: u 47 :: u 48 :: u 49 :: u 50 :: u 51 :: u 52 :: u 53 :: u 54 :: u 55 :: u 56 :: u 57 :: u 58 :: u 59 :: u 60 :: u 61 :: u 62 :: u 63 :: u 64 :: u 65 :: u 66 :: u 67 :: u 68 :: u 69 :: u 70 :: u 71 :: u 72 :: u 73 :: u 74 :: u 75 :: u 76 :: u 77 :: u 78 :: u 79 :: u 80 :: u 81 :: u 82 :: u 83 :: u 84 :: u 85 :: u 86 :: u 87 :: u 88 :: u 89 :: u 90 :: u 91 :: u 92 :: u 93 :: u 94 :: u 95 :: u 96 :: u 97 :: u 98 :: u 99 :: u 100 :: u 101 :: u 102 :: u 103 :: u 104 :: u 105 :: u 106 :: u 107 :: u 108 :: u 109 :: u 110 :: u 111 :: u 112 :: u 113 :: u 114 :: u 115 :: u 116 :: u 117 :: u 118 :: u 119 :: u 120 :: u 121 :: u 122 :: u 123 :: u 124 :: u 125 :: u 126 :: u 127 :: u 128 :: u 129 :: u 130 :: u 131 :: u 132 :: u 133 :: u 134 :: u 135 :: u 136 :: u 137 :: u 138 :: u 139 :: u 140 :: u 141 :: u 142 :: u 143 :: u 144 :: u 145 :: u 146 :: u 147 :: u 148 :: u 149 :: u 150 :: u 151 :: u 152 :: u 153 :: u 154 :: u 155 :: u 156 :: u 157 :: u 158 :: u 159 :: u 160 :: u 161 :: u 162 :: u 163 :: u 164 :: u 165 :: u 166 :: u 167 :: u 168 :: u 169 :: u 170 :: u 171 :: u 172 :: u 173 :: u 174 :: u 175 :: u 176 :: u 177 :: u 178 :: u 179 :: u 180 :: u 181 :: u 182 :: u 183 :: u 184 :: u 185 :: u 186 :: u 187 :: u 188 :: u 189 :: u 190 :: u 191 :: u 192 :: u 193 :: u 194 :: u 195 :: u 196 :: u 197 :: u 198 :: u 199 :: u 200 :: u 201 :: u 202 :: u 203 :: u 204 :: u 205 :: u 206 :: u 207 :: u 208 :: u 209 :: u 210 :: u 211 :: u 212 :: u 213 :: u 214 :: u 215 :: u 216 :: u 217 :: u 218 :: u 219 :: u 220 :: u 221 :: u 222 :: u 223 :: u 224 :: u 225 :: u 226 :: u 227 :: u 228 :: u 229 :: u 230 :: u 231 :: u 232 :: u 233 :: u 234 :: u 235 :: u 236 :: u 237 :: u 238 :: u 239 :: u 240 :: u 241 :: u 242 :: u 243 :: u 244 :: u 245 :: []).toArray, []⟩ := by
  obtain ⟨⟨l⟩, d⟩ := a
  obtain ⟨hs, hd, hl⟩ := h
  have hs' : l.length = 246 := hs
  have hd' : d = [] := hd
  subst hd'
  simp only [at_, List.map_cons, List.map_nil, List.cons.injEq, and_true] at hl
  obtain ⟨e0, e3, e4, e5, e6, e7, e8, e9, e10⟩ := hl
  refine ⟨sl ⟨⟨l⟩, []⟩, ?_⟩
  have key := open_list l [] 246 hs'
  rw [range246] at key
  have u0 : sl ⟨⟨l⟩, []⟩ 0 = v0 := by unfold sl; rw [e0]; rfl
  have u3 : sl ⟨⟨l⟩, []⟩ 3 = v3 := by unfold sl; rw [e3]; rfl
  have u4 : sl ⟨⟨l⟩, []⟩ 4 = v4 := by unfold sl; rw [e4]; rfl
  have u5 : sl ⟨⟨l⟩, []⟩ 5 = v5 := by unfold sl; rw [e5]; rfl
  have u6 : sl ⟨⟨l⟩, []⟩ 6 = v6 := by unfold sl; rw [e6]; rfl
  have u7 : sl ⟨⟨l⟩, []⟩ 7 = v7 := by unfold sl; rw [e7]; rfl
  have u8 : sl ⟨⟨l⟩, []⟩ 8 = v8 := by unfold sl; rw [e8]; rfl
  have u9 : sl ⟨⟨l⟩, []⟩ 9 = v9 := by unfold sl; rw [e9]; rfl
  have u10 : sl ⟨⟨l⟩, []⟩ 10 = v10 := by unfold sl; rw [e10]; rfl
  have k2 : l = (v0 :: sl ⟨⟨l⟩, []⟩ 1 :: sl ⟨⟨l⟩, []⟩ 2 :: v3 :: v4 :: v5 :: v6 :: v7 :: v8 :: v9 :: v10 :: sl ⟨⟨l⟩, []⟩ 11 :: sl ⟨⟨l⟩, []⟩ 12 :: sl ⟨⟨l⟩, []⟩ 13 :: sl ⟨⟨l⟩, []⟩ 14 :: sl ⟨⟨l⟩, []⟩ 15 :: sl ⟨⟨l⟩, []⟩ 16 :: sl ⟨⟨l⟩, []⟩ 17 :: sl ⟨⟨l⟩, []⟩ 18 :: sl ⟨⟨l⟩, []⟩ 19 :: sl ⟨⟨l⟩, []⟩ 20 :: sl ⟨⟨l⟩, []⟩ 21 :: sl ⟨⟨l⟩, []⟩ 22 :: sl ⟨⟨l⟩, []⟩ 23 :: sl ⟨⟨l⟩, []⟩ 24 :: sl ⟨⟨l⟩, []⟩ 25 :: sl ⟨⟨l⟩, []⟩ 26 :: sl ⟨⟨l⟩, []⟩ 27 :: sl ⟨⟨l⟩, []⟩ 28 :: sl ⟨⟨l⟩, []⟩ 29 :: sl ⟨⟨l⟩, []⟩ 30 :: sl ⟨⟨l⟩, []⟩ 31 :: sl ⟨⟨l⟩, []⟩ 32 :: sl ⟨⟨l⟩, []⟩ 33 :: sl ⟨⟨l⟩, []⟩ 34 :: sl ⟨⟨l⟩, []⟩ 35 :: sl ⟨⟨l⟩, []⟩ 36 :: sl ⟨⟨l⟩, []⟩ 37 :: sl ⟨⟨l⟩, []⟩ 38 :: sl ⟨⟨l⟩, []⟩ 39 :: sl ⟨⟨l⟩, []⟩ 40 :: sl ⟨⟨l⟩, []⟩ 41 :: sl ⟨⟨l⟩, []⟩ 42 :: sl ⟨⟨l⟩, []⟩ 43 :: sl ⟨⟨l⟩, []⟩ 44 :: sl ⟨⟨l⟩, []⟩ 45 :: sl ⟨⟨l⟩, []⟩ 46 :: sl ⟨⟨l⟩, []⟩ 47 :: sl ⟨⟨l⟩, []⟩ 48 :: sl ⟨⟨l⟩, []⟩ 49 :: sl ⟨⟨l⟩, []⟩ 50 :: sl ⟨⟨l⟩, []⟩ 51 :: sl ⟨⟨l⟩, []⟩ 52 :: sl ⟨⟨l⟩, []⟩ 53 :: sl ⟨⟨l⟩, []⟩ 54 :: sl ⟨⟨l⟩, []⟩ 55 :: sl ⟨⟨l⟩, []⟩ 56 :: sl ⟨⟨l⟩, []⟩ 57 :: sl ⟨⟨l⟩, []⟩ 58 :: sl ⟨⟨l⟩, []⟩ 59 :: sl ⟨⟨l⟩, []⟩ 60 :: sl ⟨⟨l⟩, []⟩ 61 :: sl ⟨⟨l⟩, []⟩ 62 :: sl ⟨⟨l⟩, []⟩ 63 :: sl ⟨⟨l⟩, []⟩ 64 :: sl ⟨⟨l⟩, []⟩ 65 :: sl ⟨⟨l⟩, []⟩ 66 :: sl ⟨⟨l⟩, []⟩ 67 :: sl ⟨⟨l⟩, []⟩ 68 :: sl ⟨⟨l⟩, []⟩ 69 :: sl ⟨⟨l⟩, []⟩ 70 :: sl ⟨⟨l⟩, []⟩ 71 :: sl ⟨⟨l⟩, []⟩ 72 :: sl ⟨⟨l⟩, []⟩ 73 :: sl ⟨⟨l⟩, []⟩ 74 :: sl ⟨⟨l⟩, []⟩ 75 :: sl ⟨⟨l⟩, []⟩ 76 :: sl ⟨⟨l⟩, []⟩ 77 :: sl ⟨⟨l⟩, []⟩ 78 :: sl ⟨⟨l⟩, []⟩ 79 :: sl ⟨⟨l⟩, []⟩ 80 :: sl ⟨⟨l⟩, []⟩ 81 :: sl ⟨⟨l⟩, []⟩ 82 :: sl ⟨⟨l⟩, []⟩ 83 :: sl ⟨⟨l⟩, []⟩ 84 :: sl ⟨⟨l⟩, []⟩ 85 :: sl ⟨⟨l⟩, []⟩ 86 :: sl ⟨⟨l⟩, []⟩ 87 :: sl ⟨⟨l⟩, []⟩ 88 :: sl ⟨⟨l⟩, []⟩ 89 :: sl ⟨⟨l⟩, []⟩ 90 :: sl ⟨⟨l⟩, []⟩ 91 :: sl ⟨⟨l⟩, []⟩ 92 :: sl ⟨⟨l⟩, []⟩ 93 :: sl ⟨⟨l⟩, []⟩ 94 :: sl ⟨⟨l⟩, []⟩ 95 :: sl ⟨⟨l⟩, []⟩ 96 :: sl ⟨⟨l⟩, []⟩ 97 :: sl ⟨⟨l⟩, []⟩ 98 :: sl ⟨⟨l⟩, []⟩ 99 :: sl ⟨⟨l⟩, []⟩ 100 :: sl ⟨⟨l⟩, []⟩ 101 :: sl ⟨⟨l⟩, []⟩ 102 :: sl ⟨⟨l⟩, []⟩ 103 :: sl ⟨⟨l⟩, []⟩ 104 :: sl ⟨⟨l⟩, []⟩ 105 :: sl ⟨⟨l⟩, []⟩ 106 :: sl ⟨⟨l⟩, []⟩ 107 :: sl ⟨⟨l⟩, []⟩ 108 :: sl ⟨⟨l⟩, []⟩ 109 :: sl ⟨⟨l⟩, []⟩ 110 :: sl ⟨⟨l⟩, []⟩ 111 :: sl ⟨⟨l⟩, []⟩ 112 :: sl ⟨⟨l⟩, []⟩ 113 :: sl ⟨⟨l⟩, []⟩ 114 :: sl ⟨⟨l⟩, []⟩ 115 :: sl ⟨⟨l⟩, []⟩ 116 :: sl ⟨⟨l⟩, []⟩ 117 :: sl ⟨⟨l⟩, []⟩ 118 :: sl ⟨⟨l⟩, []⟩ 119 :: sl ⟨⟨l⟩, []⟩ 120 :: sl ⟨⟨l⟩, []⟩ 121 :: sl ⟨⟨l⟩, []⟩ 122 :: sl ⟨⟨l⟩, []⟩ 123 :: sl ⟨⟨l⟩, []⟩ 124 :: sl ⟨⟨l⟩, []⟩ 125 :: sl ⟨⟨l⟩, []⟩ 126 :: sl ⟨⟨l⟩, []⟩ 127 :: sl ⟨⟨l⟩, []⟩ 128 :: sl ⟨⟨l⟩, []⟩ 129 :: sl ⟨⟨l⟩, []⟩ 130 :: sl ⟨⟨l⟩, []⟩ 131 :: sl ⟨⟨l⟩, []⟩ 132 :: sl ⟨⟨l⟩, []⟩ 133 :: sl ⟨⟨l⟩, []⟩ 134 :: sl ⟨⟨l⟩, []⟩ 135 :: sl ⟨⟨l⟩, []⟩ 136 :: sl ⟨⟨l⟩, []⟩ 137 :: sl ⟨⟨l⟩, []⟩ 138 :: sl ⟨⟨l⟩, []⟩ 139 :: sl ⟨⟨l⟩, []⟩ 140 :: sl ⟨⟨l⟩, []⟩ 141 :: sl ⟨⟨l⟩, []⟩ 142 :: sl ⟨⟨l⟩, []⟩ 143 :: sl ⟨⟨l⟩, []⟩ 144 :: sl ⟨⟨l⟩, []⟩ 145 :: sl ⟨⟨l⟩, []⟩ 146 :: sl ⟨⟨l⟩, []⟩ 147 :: sl ⟨⟨l⟩, []⟩ 148 :: sl ⟨⟨l⟩, []⟩ 149 :: sl ⟨⟨l⟩, []⟩ 150 :: sl ⟨⟨l⟩, []⟩ 151 :: sl ⟨⟨l⟩, []⟩ 152 :: sl ⟨⟨l⟩, []⟩ 153 :: sl ⟨⟨l⟩, []⟩ 154 :: sl ⟨⟨l⟩, []⟩ 155 :: sl ⟨⟨l⟩, []⟩ 156 :: sl ⟨⟨l⟩, []⟩ 157 :: sl ⟨⟨l⟩, []⟩ 158 :: sl ⟨⟨l⟩, []⟩ 159 :: sl ⟨⟨l⟩, []⟩ 160 :: sl ⟨⟨l⟩, []⟩ 161 :: sl ⟨⟨l⟩, []⟩ 162 :: sl ⟨⟨l⟩, []⟩ 163 :: sl ⟨⟨l⟩, []⟩ 164 :: sl ⟨⟨l⟩, []⟩ 165 :: sl ⟨⟨l⟩, []⟩ 166 :: sl ⟨⟨l⟩, []⟩ 167 :: sl ⟨⟨l⟩, []⟩ 168 :: sl ⟨⟨l⟩, []⟩ 169 :: sl ⟨⟨l⟩, []⟩ 170 :: sl ⟨⟨l⟩, []⟩ 171 :: sl ⟨⟨l⟩, []⟩ 172 :: sl ⟨⟨l⟩, []⟩ 173 :: sl ⟨⟨l⟩, []⟩ 174 :: sl ⟨⟨l⟩, []⟩ 175 :: sl ⟨⟨l⟩, []⟩ 176 :: sl ⟨⟨l⟩, []⟩ 177 :: sl ⟨⟨l⟩, []⟩ 178 :: sl ⟨⟨l⟩, []⟩ 179 :: sl ⟨⟨l⟩, []⟩ 180 :: sl ⟨⟨l⟩, []⟩ 181 :: sl ⟨⟨l⟩, []⟩ 182 :: sl ⟨⟨l⟩, []⟩ 183 :: sl ⟨⟨l⟩, []⟩ 184 :: sl ⟨⟨l⟩, []⟩ 185 :: sl ⟨⟨l⟩, []⟩ 186 :: sl ⟨⟨l⟩, []⟩ 187 :: sl ⟨⟨l⟩, []⟩ 188 :: sl ⟨⟨l⟩, []⟩ 189 :: sl ⟨⟨l⟩, []⟩ 190 :: sl ⟨⟨l⟩, []⟩ 191 :: sl ⟨⟨l⟩, []⟩ 192 :: sl ⟨⟨l⟩, []⟩ 193 :: sl ⟨⟨l⟩, []⟩ 194 :: sl ⟨⟨l⟩, []⟩ 195 :: sl ⟨⟨l⟩, []⟩ 196 :: sl ⟨⟨l⟩, []⟩ 197 :: sl ⟨⟨l⟩, []⟩ 198 :: sl ⟨⟨l⟩, []⟩ 199 :: sl ⟨⟨l⟩, []⟩ 200 :: sl ⟨⟨l⟩, []⟩ 201 :: sl ⟨⟨l⟩, []⟩ 202 :: sl ⟨⟨l⟩, []⟩ 203 :: sl ⟨⟨l⟩, []⟩ 204 :: sl ⟨⟨l⟩, []⟩ 205 :: sl ⟨⟨l⟩, []⟩ 206 :: sl ⟨⟨l⟩, []⟩ 207 :: sl ⟨⟨l⟩, []⟩ 208 :: sl ⟨⟨l⟩, []⟩ 209 :: sl ⟨⟨l⟩, []⟩ 210 :: sl ⟨⟨l⟩, []⟩ 211 :: sl ⟨⟨l⟩, []⟩ 212 :: sl ⟨⟨l⟩, []⟩ 213 :: sl ⟨⟨l⟩, []⟩ 214 :: sl ⟨⟨l⟩, []⟩ 215 :: sl ⟨⟨l⟩, []⟩ 216 :: sl ⟨⟨l⟩, []⟩ 217 :: sl ⟨⟨l⟩, []⟩ 218 :: sl ⟨⟨l⟩, []⟩ 219 :: sl ⟨⟨l⟩, []⟩ 220 :: sl ⟨⟨l⟩, []⟩ 221 :: sl ⟨⟨l⟩, []⟩ 222 :: sl ⟨⟨l⟩, []⟩ 223 :: sl ⟨⟨l⟩, []⟩ 224 :: sl ⟨⟨l⟩, []⟩ 225 :: sl ⟨⟨l⟩, []⟩ 226 :: sl ⟨⟨l⟩, []⟩ 227 :: sl ⟨⟨l⟩, []⟩ 228 :: sl ⟨⟨l⟩, []⟩ 229 :: sl ⟨⟨l⟩, []⟩ 230 :: sl ⟨⟨l⟩, []⟩ 231 :: sl ⟨⟨l⟩, []⟩ 232 :: sl ⟨⟨l⟩, []⟩ 233 :: sl ⟨⟨l⟩, []⟩ 234 :: sl ⟨⟨l⟩, []⟩ 235 :: sl ⟨⟨l⟩, []⟩ 236 :: sl ⟨⟨l⟩, []⟩ 237 :: sl ⟨⟨l⟩, []⟩ 238 :: sl ⟨⟨l⟩, []⟩ 239 :: sl ⟨⟨l⟩, []⟩ 240 :: sl ⟨⟨l⟩, []⟩ 241 :: sl ⟨⟨l⟩, []⟩ 242 :: sl ⟨⟨l⟩, []⟩ 243 :: sl ⟨⟨l⟩, []⟩ 244 :: sl ⟨⟨l⟩, []⟩ 245 :: []) := by
    rw [← u0, ← u3, ← u4, ← u5, ← u6, ← u7, ← u8, ← u9, ← u10]
    exact key
  exact congrArg (fun x => (⟨⟨x⟩, []⟩ : Act)) k2
theorem shapeM : dropS 4 bodyR = (headS (dropS 4 bodyR)).seq ((headS (dropS 5 bodyR)).seq ((headS (dropS 6 bodyR)).seq ((headS (dropS 7 bodyR)).seq ((headS (dropS 8 bodyR)).seq (((headS (headS (dropS 9 bodyR))).seq (.block 2 actP)).seq tailP))))) := by kernel_rfl
set_option maxHeartbeats 8000000 in
theorem play_mid (R : Nat → Prop) (w0 w : World) (s C B n D : Nat) (v : Int → Nat → Int) (u r : Nat → Int) (o : OpV) (v0 v4 v7 : Value) (t x : Int) (HP : Hid (Play R w0 w s C B n v u r)) (HA : Hid (Agrees v u)) (hn : n ≤ 90)
    (HD : Hid (R D ∧ D ≠ C ∧ D ≠ B ∧ w0.heap.size ≤ D)) (HF : Hid (∀ j y, (opC o)[j]? = some y → w.cell? ⟨D, j, none⟩ = some y))
    (ht0 : -9223372036854775808 ≤ t) (hx0 : -9223372036854775808 ≤ x) (hx1 : x ≤ 9223372036854775807) (Q : Exit → Act → World → Prop) (a : Act)
    (ha : Has 246 [0, 3, 4, 5, 6, 7, 8, 9, 10] [v0, .pointer (some ⟨s, 0, none⟩), v4, .pointer (some ⟨C, 0, none⟩), .pointer (some ⟨B, 0, none⟩), v7, .pointer (some ⟨D, 0, none⟩), .int .i64 t, .int .i64 x] a) (hK1 : ∀ a' w' n' v' u' r', Has 246 [0, 3, 4, 5, 6, 7] [v0, .pointer (some ⟨s, 0, none⟩), v4, .pointer (some ⟨C, 0, none⟩), .pointer (some ⟨B, 0, none⟩), v7] a' → n' ≤ n + 1 → Play R w0 w' s C B n' v' u' r' → Agrees v' u' → Q (.exit 1) a' w') (hK : ∀ a' w' n' v' u' r', Has 246 [0, 3, 4, 5, 6, 7] [v0, .pointer (some ⟨s, 0, none⟩), v4, .pointer (some ⟨C, 0, none⟩), .pointer (some ⟨B, 0, none⟩), v7] a' → n' ≤ n + 1 → Play R w0 w' s C B n' v' u' r' → Agrees v' u' → Q .normal a' w') : (dropS 4 bodyR).wp Try.prog Q a w := by
  obtain ⟨u0, rfl⟩ := topen_0_3_4_5_6_7_8_9_10 ha
  clear ha
  have HK := Lib.hid hK
  have HK1 := Lib.hid hK1
  clear hK hK1
  have HACT := Lib.hid act_any
  have HTAIL := Lib.hid play_tail
  have f0 := HF.out 0 _ rfl
  have HB := Lib.hid (And.intro ht0 (And.intro hx0 hx1))
  rw [shapeM]
  generalize actP = SA at *
  generalize tailP = ST at *
  conv => arg 2; arg 1; whnf
  conv => arg 2; arg 2; arg 1; whnf
  conv => arg 2; arg 2; arg 2; arg 1; whnf
  conv => arg 2; arg 2; arg 2; arg 2; arg 1; whnf
  conv => arg 2; arg 2; arg 2; arg 2; arg 2; arg 1; whnf
  conv => arg 2; arg 2; arg 2; arg 2; arg 2; arg 2; arg 1; arg 1; whnf
  by_cases c3 : 3 < t
  · have t0 : 0 < t := by omega
    have e3 : decide ((3 : Int) < t) = true := decide_eq_true c3
    clear ht0 hx0 hx1
    by_cases d0 : 0 ≤ x
    · go_wp2_with fail
      all_goals exact HK1.out _ _ _ _ _ _ ⟨rfl, rfl, rfl⟩ (by omega) HP.out HA.out
    · go_wp2_with fail
      all_goals exact HK1.out _ _ _ _ _ _ ⟨rfl, rfl, rfl⟩ (by omega) HP.out HA.out
  have e3 : decide ((3 : Int) < t) = false := decide_eq_false c3
  by_cases c0 : 0 < t
  · obtain ⟨k, rfl⟩ : ∃ k : Nat, t = k := ⟨t.toNat, by omega⟩
    have hk4 : k < 4 := by omega
    have e4 : decide ((k : Int) < 4) = true := decide_eq_true (by omega)
    have c4 : (k : Int) < 4 := by omega
    by_cases d0 : 0 ≤ x
    · obtain ⟨i, rfl⟩ : ∃ i : Nat, x = i := ⟨x.toNat, by omega⟩
      by_cases d1 : i < 32
      · have d1' : (i : Int) < 32 := by omega
        have hgv := HA.out.get (k := k) (i := i) (by omega) hk4 d1
        have hcw := HP.out.wcell2 hk4 d1
        rw [← hgv] at hcw
        clear ht0 hx0 hx1 hgv
        go_wp2_with fail
        have HB0 := HB.out
        refine HACT.out R w0 w s C B n D v u r o v0 v4 v7 k i true true HP HA hn HD HF (Lib.hid (by first | exact (decide_eq_true (by omega)).symm | exact (decide_eq_false (by omega)).symm)) (Lib.hid (by first | exact (decide_eq_true (by omega)).symm | exact (decide_eq_false (by omega)).symm)) HB0.1 (by omega) HB0.2.1 HB0.2.2 _ _ ⟨rfl, rfl, rfl⟩ ?_
        intro a2 w2 n2 v2 u2 r2 ha2 hn2 hp2 hA2
        obtain ⟨u4, rfl⟩ := topen_0_3_4_5_6_7 ha2
        go_wp2_with fail
        refine HTAIL.out R w0 w2 s C B n2 v2 u2 r2 v0 v4 _ v7 (Lib.hid hp2) (Lib.hid hA2) _ _ ⟨rfl, rfl, rfl⟩ ?_
        intro a3 w3 ha3 hp3
        exact HK.out _ _ _ _ _ _ ha3 hn2 hp3 hA2
      · have d1' : ¬ (i : Int) < 32 := by omega
        have hgv : getV v k i = 0 := by unfold getV; rw [if_neg (by omega)]
        clear ht0 hx0 hx1
        go_wp2_with fail
        have HB0 := HB.out
        refine HACT.out R w0 w s C B n D v u r o v0 v4 v7 k i false true HP HA hn HD HF (Lib.hid (by first | exact (decide_eq_true (by omega)).symm | exact (decide_eq_false (by omega)).symm)) (Lib.hid (by first | exact (decide_eq_true (by omega)).symm | exact (decide_eq_false (by omega)).symm)) HB0.1 (by omega) HB0.2.1 HB0.2.2 _ _ (by rw [hgv]; exact ⟨rfl, rfl, rfl⟩) ?_
        intro a2 w2 n2 v2 u2 r2 ha2 hn2 hp2 hA2
        obtain ⟨u4, rfl⟩ := topen_0_3_4_5_6_7 ha2
        go_wp2_with fail
        refine HTAIL.out R w0 w2 s C B n2 v2 u2 r2 v0 v4 _ v7 (Lib.hid hp2) (Lib.hid hA2) _ _ ⟨rfl, rfl, rfl⟩ ?_
        intro a3 w3 ha3 hp3
        exact HK.out _ _ _ _ _ _ ha3 hn2 hp3 hA2
    · have hgv : getV v k x = 0 := by unfold getV; rw [if_neg (by omega)]
      clear ht0 hx0 hx1
      go_wp2_with fail
      have HB0 := HB.out
      refine HACT.out R w0 w s C B n D v u r o v0 v4 v7 k x false true HP HA hn HD HF (Lib.hid (by first | exact (decide_eq_true (by omega)).symm | exact (decide_eq_false (by omega)).symm)) (Lib.hid (by first | exact (decide_eq_true (by omega)).symm | exact (decide_eq_false (by omega)).symm)) HB0.1 (by omega) HB0.2.1 HB0.2.2 _ _ (by rw [hgv]; exact ⟨rfl, rfl, rfl⟩) ?_
      intro a2 w2 n2 v2 u2 r2 ha2 hn2 hp2 hA2
      obtain ⟨u4, rfl⟩ := topen_0_3_4_5_6_7 ha2
      go_wp2_with fail
      refine HTAIL.out R w0 w2 s C B n2 v2 u2 r2 v0 v4 _ v7 (Lib.hid hp2) (Lib.hid hA2) _ _ ⟨rfl, rfl, rfl⟩ ?_
      intro a3 w3 ha3 hp3
      exact HK.out _ _ _ _ _ _ ha3 hn2 hp3 hA2
  · have hgv : getV v t x = 0 := by unfold getV; rw [if_neg (by omega)]
    clear ht0 hx0 hx1
    go_wp2_with fail
    have HB0 := HB.out
    refine HACT.out R w0 w s C B n D v u r o v0 v4 v7 t x false false HP HA hn HD HF (Lib.hid (by first | exact (decide_eq_true (by omega)).symm | exact (decide_eq_false (by omega)).symm)) (Lib.hid (by first | exact (decide_eq_true (by omega)).symm | exact (decide_eq_false (by omega)).symm)) HB0.1 (by omega) HB0.2.1 HB0.2.2 _ _ (by rw [hgv]; exact ⟨rfl, rfl, rfl⟩) ?_
    intro a2 w2 n2 v2 u2 r2 ha2 hn2 hp2 hA2
    obtain ⟨u4, rfl⟩ := topen_0_3_4_5_6_7 ha2
    go_wp2_with fail
    refine HTAIL.out R w0 w2 s C B n2 v2 u2 r2 v0 v4 _ v7 (Lib.hid hp2) (Lib.hid hA2) _ _ ⟨rfl, rfl, rfl⟩ ?_
    intro a3 w3 ha3 hp3
    exact HK.out _ _ _ _ _ _ ha3 hn2 hp3 hA2
end Go.Proofs.Ytijggmioknneoaa
