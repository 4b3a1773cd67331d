/- law 23: GatesPlay: gates: get, none. -/
import Derived.Test.YtijggmioknneoaaPlayJ
namespace Go.Proofs.Ytijggmioknneoaa
open Go.ChangeShapes Go.WideShapes Go.ChangeAt Go.RowKit
set_option linter.unusedVariables false
set_option linter.unusedSimpArgs false
set_option maxRecDepth 100000

theorem topen_0_3_4_5_6_7_8_9_10_11_12_13_15_16 {a : Act} {v0 v3 v4 v5 v6 v7 v8 v9 v10 v11 v12 v13 v15 v16 : Value} (h : Has 246 [0, 3, 4, 5, 6, 7, 8, 9, 10, 11, 12, 13, 15, 16] [v0, v3, v4, v5, v6, v7, v8, v9, v10, v11, v12, v13, v15, v16] a) : ∃ u : Nat → Value, a = ⟨(v0 :: u 1 :: u 2 :: v3 :: v4 :: v5 :: v6 :: v7 :: v8 :: v9 :: v10 :: v11 :: v12 :: v13 :: u 14 :: v15 :: v16 :: u 17 :: u 18 :: u 19 :: u 20 :: u 21 :: u 22 :: u 23 :: u 24 :: u 25 :: u 26 :: u 27 :: u 28 :: u 29 :: u 30 :: u 31 :: u 32 :: u 33 :: u 34 :: u 35 :: u 36 :: u 37 :: u 38 :: u 39 :: u 40 :: u 41 :: u 42 :: u 43 :: u 44 :: u 45 :: u 46 :: u 47 :: u 48 :: u 49 :: u 50 :: u 51 :: u 52 :: u 53 :: u 54 :: u 55 :: u 56 :: u 57 :: u 58 :: u 59 :: u 60 :: u 61 :: u 62 :: u 63 :: u 64 :: u 65 :: u 66 :: u 67 :: u 68 :: u 69 :: u 70 :: u 71 :: u 72 :: u 73 :: u 74 :: u 75 :: u 76 :: u 77 :: u 78 :: u 79 :: u 80 :: u 81 :: u 82 :: u 83 :: u 84 :: u 85 :: u 86 :: u 87 :: u 88 :: u 89 :: u 90 :: u 91 :: u 92 :: u 93 :: u 94 :: u 95 :: u 96 :: u 97 :: u 98 :: u 99 :: u 100 :: u 101 :: u 102 :: u 103 :: u 104 :: u 105 :: u 106 :: u 107 :: u 108 :: u 109 :: u 110 :: u 111 :: u 112 :: u 113 :: u 114 :: u 115 :: u 116 :: u 117 :: u 118 :: u 119 :: u 120 :: u 121 :: u 122 :: u 123 :: u 124 :: u 125 :: u 126 :: u 127 :: u 128 :: u 129 :: u 130 :: u 131 :: u 132 :: u 133 :: u 134 :: u 135 :: u 136 :: u 137 :: u 138 :: u 139 :: u 140 :: u 141 :: u 142 :: u 143 :: u 144 :: u 145 :: u 146 :: u 147 :: u 148 :: u 149 :: u 150 :: u 151 :: u 152 :: u 153 :: u 154 :: u 155 :: u 156 :: u 157 :: u 158 :: u 159 :: u 160 :: u 161 :: u 162 :: u 163 :: u 164 :: u 165 :: u 166 :: u 167 :: u 168 :: u 169 :: u 170 :: u 171 :: u 172 :: u 173 :: u 174 :: u 175 :: u 176 :: u 177 :: u 178 :: u 179 :: u 180 :: u 181 :: u 182 :: u 183 :: u 184 :: u 185 :: u 186 :: u 187 :: u 188 :: u 189 :: u 190 :: u 191 :: u 192 :: u 193 :: u 194 :: u 195 :: u 196 :: u 197 :: u 198 :: u 199 :: u 200 :: u 201 :: u 202 :: u 203 :: u 204 :: u 205 :: u 206 :: u 207 :: u 208 :: u 209 :: u 210 :: u 211 :: u 212 :: u 213 :: u 214 :: u 215 :: u 216 :: u 217 :: u 218 :: u 219 :: u 220 :: u 221 :: u 222 :: u 223 :: u 224 :: u 225 :: u 226 :: u 227 :: u 228 :: u 229 :: u 230 :: u 231 :: u 232 :: u 233 :: u 234 :: u 235 :: u 236 :: u 237 :: u 238 :: u 239 :: u 240 :: u 241 :: u 242 :: u 243 :: u 244 :: u 245 :: []).toArray, []⟩ := by
  obtain ⟨⟨l⟩, d⟩ := a
  obtain ⟨hs, hd, hl⟩ := h
  have hs' : l.length = 246 := hs
  have hd' : d = [] := hd
  subst hd'
  simp only [at_, List.map_cons, List.map_nil, List.cons.injEq, and_true] at hl
  obtain ⟨e0, e3, e4, e5, e6, e7, e8, e9, e10, e11, e12, e13, e15, e16⟩ := hl
  refine ⟨sl ⟨⟨l⟩, []⟩, ?_⟩
  have key := open_list l [] 246 hs'
  rw [range246] at key
  have u0 : sl ⟨⟨l⟩, []⟩ 0 = v0 := by unfold sl; rw [e0]; rfl
  have u3 : sl ⟨⟨l⟩, []⟩ 3 = v3 := by unfold sl; rw [e3]; rfl
  have u4 : sl ⟨⟨l⟩, []⟩ 4 = v4 := by unfold sl; rw [e4]; rfl
  have u5 : sl ⟨⟨l⟩, []⟩ 5 = v5 := by unfold sl; rw [e5]; rfl
  have u6 : sl ⟨⟨l⟩, []⟩ 6 = v6 := by unfold sl; rw [e6]; rfl
  have u7 : sl ⟨⟨l⟩, []⟩ 7 = v7 := by unfold sl; rw [e7]; rfl
  have u8 : sl ⟨⟨l⟩, []⟩ 8 = v8 := by unfold sl; rw [e8]; rfl
  have u9 : sl ⟨⟨l⟩, []⟩ 9 = v9 := by unfold sl; rw [e9]; rfl
  have u10 : sl ⟨⟨l⟩, []⟩ 10 = v10 := by unfold sl; rw [e10]; rfl
  have u11 : sl ⟨⟨l⟩, []⟩ 11 = v11 := by unfold sl; rw [e11]; rfl
  have u12 : sl ⟨⟨l⟩, []⟩ 12 = v12 := by unfold sl; rw [e12]; rfl
  have u13 : sl ⟨⟨l⟩, []⟩ 13 = v13 := by unfold sl; rw [e13]; rfl
  have u15 : sl ⟨⟨l⟩, []⟩ 15 = v15 := by unfold sl; rw [e15]; rfl
  have u16 : sl ⟨⟨l⟩, []⟩ 16 = v16 := by unfold sl; rw [e16]; rfl
  have k2 : l = (v0 :: sl ⟨⟨l⟩, []⟩ 1 :: sl ⟨⟨l⟩, []⟩ 2 :: v3 :: v4 :: v5 :: v6 :: v7 :: v8 :: v9 :: v10 :: v11 :: v12 :: v13 :: sl ⟨⟨l⟩, []⟩ 14 :: v15 :: v16 :: sl ⟨⟨l⟩, []⟩ 17 :: sl ⟨⟨l⟩, []⟩ 18 :: sl ⟨⟨l⟩, []⟩ 19 :: sl ⟨⟨l⟩, []⟩ 20 :: sl ⟨⟨l⟩, []⟩ 21 :: sl ⟨⟨l⟩, []⟩ 22 :: sl ⟨⟨l⟩, []⟩ 23 :: sl ⟨⟨l⟩, []⟩ 24 :: sl ⟨⟨l⟩, []⟩ 25 :: sl ⟨⟨l⟩, []⟩ 26 :: sl ⟨⟨l⟩, []⟩ 27 :: sl ⟨⟨l⟩, []⟩ 28 :: sl ⟨⟨l⟩, []⟩ 29 :: sl ⟨⟨l⟩, []⟩ 30 :: sl ⟨⟨l⟩, []⟩ 31 :: sl ⟨⟨l⟩, []⟩ 32 :: sl ⟨⟨l⟩, []⟩ 33 :: sl ⟨⟨l⟩, []⟩ 34 :: sl ⟨⟨l⟩, []⟩ 35 :: sl ⟨⟨l⟩, []⟩ 36 :: sl ⟨⟨l⟩, []⟩ 37 :: sl ⟨⟨l⟩, []⟩ 38 :: sl ⟨⟨l⟩, []⟩ 39 :: sl ⟨⟨l⟩, []⟩ 40 :: sl ⟨⟨l⟩, []⟩ 41 :: sl ⟨⟨l⟩, []⟩ 42 :: sl ⟨⟨l⟩, []⟩ 43 :: sl ⟨⟨l⟩, []⟩ 44 :: sl ⟨⟨l⟩, []⟩ 45 :: sl ⟨⟨l⟩, []⟩ 46 :: sl ⟨⟨l⟩, []⟩ 47 :: sl ⟨⟨l⟩, []⟩ 48 :: sl ⟨⟨l⟩, []⟩ 49 :: sl ⟨⟨l⟩, []⟩ 50 :: sl ⟨⟨l⟩, []⟩ 51 :: sl ⟨⟨l⟩, []⟩ 52 :: sl ⟨⟨l⟩, []⟩ 53 :: sl ⟨⟨l⟩, []⟩ 54 :: sl ⟨⟨l⟩, []⟩ 55 :: sl ⟨⟨l⟩, []⟩ 56 :: sl ⟨⟨l⟩, []⟩ 57 :: sl ⟨⟨l⟩, []⟩ 58 :: sl ⟨⟨l⟩, []⟩ 59 :: sl ⟨⟨l⟩, []⟩ 60 :: sl ⟨⟨l⟩, []⟩ 61 :: sl ⟨⟨l⟩, []⟩ 62 :: sl ⟨⟨l⟩, []⟩ 63 :: sl ⟨⟨l⟩, []⟩ 64 :: sl ⟨⟨l⟩, []⟩ 65 :: sl ⟨⟨l⟩, []⟩ 66 :: sl ⟨⟨l⟩, []⟩ 67 :: sl ⟨⟨l⟩, []⟩ 68 :: sl ⟨⟨l⟩, []⟩ 69 :: sl ⟨⟨l⟩, []⟩ 70 :: sl ⟨⟨l⟩, []⟩ 71 :: sl ⟨⟨l⟩, []⟩ 72 :: sl ⟨⟨l⟩, []⟩ 73 :: sl ⟨⟨l⟩, []⟩ 74 :: sl ⟨⟨l⟩, []⟩ 75 :: sl ⟨⟨l⟩, []⟩ 76 :: sl ⟨⟨l⟩, []⟩ 77 :: sl ⟨⟨l⟩, []⟩ 78 :: sl ⟨⟨l⟩, []⟩ 79 :: sl ⟨⟨l⟩, []⟩ 80 :: sl ⟨⟨l⟩, []⟩ 81 :: sl ⟨⟨l⟩, []⟩ 82 :: sl ⟨⟨l⟩, []⟩ 83 :: sl ⟨⟨l⟩, []⟩ 84 :: sl ⟨⟨l⟩, []⟩ 85 :: sl ⟨⟨l⟩, []⟩ 86 :: sl ⟨⟨l⟩, []⟩ 87 :: sl ⟨⟨l⟩, []⟩ 88 :: sl ⟨⟨l⟩, []⟩ 89 :: sl ⟨⟨l⟩, []⟩ 90 :: sl ⟨⟨l⟩, []⟩ 91 :: sl ⟨⟨l⟩, []⟩ 92 :: sl ⟨⟨l⟩, []⟩ 93 :: sl ⟨⟨l⟩, []⟩ 94 :: sl ⟨⟨l⟩, []⟩ 95 :: sl ⟨⟨l⟩, []⟩ 96 :: sl ⟨⟨l⟩, []⟩ 97 :: sl ⟨⟨l⟩, []⟩ 98 :: sl ⟨⟨l⟩, []⟩ 99 :: sl ⟨⟨l⟩, []⟩ 100 :: sl ⟨⟨l⟩, []⟩ 101 :: sl ⟨⟨l⟩, []⟩ 102 :: sl ⟨⟨l⟩, []⟩ 103 :: sl ⟨⟨l⟩, []⟩ 104 :: sl ⟨⟨l⟩, []⟩ 105 :: sl ⟨⟨l⟩, []⟩ 106 :: sl ⟨⟨l⟩, []⟩ 107 :: sl ⟨⟨l⟩, []⟩ 108 :: sl ⟨⟨l⟩, []⟩ 109 :: sl ⟨⟨l⟩, []⟩ 110 :: sl ⟨⟨l⟩, []⟩ 111 :: sl ⟨⟨l⟩, []⟩ 112 :: sl ⟨⟨l⟩, []⟩ 113 :: sl ⟨⟨l⟩, []⟩ 114 :: sl ⟨⟨l⟩, []⟩ 115 :: sl ⟨⟨l⟩, []⟩ 116 :: sl ⟨⟨l⟩, []⟩ 117 :: sl ⟨⟨l⟩, []⟩ 118 :: sl ⟨⟨l⟩, []⟩ 119 :: sl ⟨⟨l⟩, []⟩ 120 :: sl ⟨⟨l⟩, []⟩ 121 :: sl ⟨⟨l⟩, []⟩ 122 :: sl ⟨⟨l⟩, []⟩ 123 :: sl ⟨⟨l⟩, []⟩ 124 :: sl ⟨⟨l⟩, []⟩ 125 :: sl ⟨⟨l⟩, []⟩ 126 :: sl ⟨⟨l⟩, []⟩ 127 :: sl ⟨⟨l⟩, []⟩ 128 :: sl ⟨⟨l⟩, []⟩ 129 :: sl ⟨⟨l⟩, []⟩ 130 :: sl ⟨⟨l⟩, []⟩ 131 :: sl ⟨⟨l⟩, []⟩ 132 :: sl ⟨⟨l⟩, []⟩ 133 :: sl ⟨⟨l⟩, []⟩ 134 :: sl ⟨⟨l⟩, []⟩ 135 :: sl ⟨⟨l⟩, []⟩ 136 :: sl ⟨⟨l⟩, []⟩ 137 :: sl ⟨⟨l⟩, []⟩ 138 :: sl ⟨⟨l⟩, []⟩ 139 :: sl ⟨⟨l⟩, []⟩ 140 :: sl ⟨⟨l⟩, []⟩ 141 :: sl ⟨⟨l⟩, []⟩ 142 :: sl ⟨⟨l⟩, []⟩ 143 :: sl ⟨⟨l⟩, []⟩ 144 :: sl ⟨⟨l⟩, []⟩ 145 :: sl ⟨⟨l⟩, []⟩ 146 :: sl ⟨⟨l⟩, []⟩ 147 :: sl ⟨⟨l⟩, []⟩ 148 :: sl ⟨⟨l⟩, []⟩ 149 :: sl ⟨⟨l⟩, []⟩ 150 :: sl ⟨⟨l⟩, []⟩ 151 :: sl ⟨⟨l⟩, []⟩ 152 :: sl ⟨⟨l⟩, []⟩ 153 :: sl ⟨⟨l⟩, []⟩ 154 :: sl ⟨⟨l⟩, []⟩ 155 :: sl ⟨⟨l⟩, []⟩ 156 :: sl ⟨⟨l⟩, []⟩ 157 :: sl ⟨⟨l⟩, []⟩ 158 :: sl ⟨⟨l⟩, []⟩ 159 :: sl ⟨⟨l⟩, []⟩ 160 :: sl ⟨⟨l⟩, []⟩ 161 :: sl ⟨⟨l⟩, []⟩ 162 :: sl ⟨⟨l⟩, []⟩ 163 :: sl ⟨⟨l⟩, []⟩ 164 :: sl ⟨⟨l⟩, []⟩ 165 :: sl ⟨⟨l⟩, []⟩ 166 :: sl ⟨⟨l⟩, []⟩ 167 :: sl ⟨⟨l⟩, []⟩ 168 :: sl ⟨⟨l⟩, []⟩ 169 :: sl ⟨⟨l⟩, []⟩ 170 :: sl ⟨⟨l⟩, []⟩ 171 :: sl ⟨⟨l⟩, []⟩ 172 :: sl ⟨⟨l⟩, []⟩ 173 :: sl ⟨⟨l⟩, []⟩ 174 :: sl ⟨⟨l⟩, []⟩ 175 :: sl ⟨⟨l⟩, []⟩ 176 :: sl ⟨⟨l⟩, []⟩ 177 :: sl ⟨⟨l⟩, []⟩ 178 :: sl ⟨⟨l⟩, []⟩ 179 :: sl ⟨⟨l⟩, []⟩ 180 :: sl ⟨⟨l⟩, []⟩ 181 :: sl ⟨⟨l⟩, []⟩ 182 :: sl ⟨⟨l⟩, []⟩ 183 :: sl ⟨⟨l⟩, []⟩ 184 :: sl ⟨⟨l⟩, []⟩ 185 :: sl ⟨⟨l⟩, []⟩ 186 :: sl ⟨⟨l⟩, []⟩ 187 :: sl ⟨⟨l⟩, []⟩ 188 :: sl ⟨⟨l⟩, []⟩ 189 :: sl ⟨⟨l⟩, []⟩ 190 :: sl ⟨⟨l⟩, []⟩ 191 :: sl ⟨⟨l⟩, []⟩ 192 :: sl ⟨⟨l⟩, []⟩ 193 :: sl ⟨⟨l⟩, []⟩ 194 :: sl ⟨⟨l⟩, []⟩ 195 :: sl ⟨⟨l⟩, []⟩ 196 :: sl ⟨⟨l⟩, []⟩ 197 :: sl ⟨⟨l⟩, []⟩ 198 :: sl ⟨⟨l⟩, []⟩ 199 :: sl ⟨⟨l⟩, []⟩ 200 :: sl ⟨⟨l⟩, []⟩ 201 :: sl ⟨⟨l⟩, []⟩ 202 :: sl ⟨⟨l⟩, []⟩ 203 :: sl ⟨⟨l⟩, []⟩ 204 :: sl ⟨⟨l⟩, []⟩ 205 :: sl ⟨⟨l⟩, []⟩ 206 :: sl ⟨⟨l⟩, []⟩ 207 :: sl ⟨⟨l⟩, []⟩ 208 :: sl ⟨⟨l⟩, []⟩ 209 :: sl ⟨⟨l⟩, []⟩ 210 :: sl ⟨⟨l⟩, []⟩ 211 :: sl ⟨⟨l⟩, []⟩ 212 :: sl ⟨⟨l⟩, []⟩ 213 :: sl ⟨⟨l⟩, []⟩ 214 :: sl ⟨⟨l⟩, []⟩ 215 :: sl ⟨⟨l⟩, []⟩ 216 :: sl ⟨⟨l⟩, []⟩ 217 :: sl ⟨⟨l⟩, []⟩ 218 :: sl ⟨⟨l⟩, []⟩ 219 :: sl ⟨⟨l⟩, []⟩ 220 :: sl ⟨⟨l⟩, []⟩ 221 :: sl ⟨⟨l⟩, []⟩ 222 :: sl ⟨⟨l⟩, []⟩ 223 :: sl ⟨⟨l⟩, []⟩ 224 :: sl ⟨⟨l⟩, []⟩ 225 :: sl ⟨⟨l⟩, []⟩ 226 :: sl ⟨⟨l⟩, []⟩ 227 :: sl ⟨⟨l⟩, []⟩ 228 :: sl ⟨⟨l⟩, []⟩ 229 :: sl ⟨⟨l⟩, []⟩ 230 :: sl ⟨⟨l⟩, []⟩ 231 :: sl ⟨⟨l⟩, []⟩ 232 :: sl ⟨⟨l⟩, []⟩ 233 :: sl ⟨⟨l⟩, []⟩ 234 :: sl ⟨⟨l⟩, []⟩ 235 :: sl ⟨⟨l⟩, []⟩ 236 :: sl ⟨⟨l⟩, []⟩ 237 :: sl ⟨⟨l⟩, []⟩ 238 :: sl ⟨⟨l⟩, []⟩ 239 :: sl ⟨⟨l⟩, []⟩ 240 :: sl ⟨⟨l⟩, []⟩ 241 :: sl ⟨⟨l⟩, []⟩ 242 :: sl ⟨⟨l⟩, []⟩ 243 :: sl ⟨⟨l⟩, []⟩ 244 :: sl ⟨⟨l⟩, []⟩ 245 :: []) := by
    rw [← u0, ← u3, ← u4, ← u5, ← u6, ← u7, ← u8, ← u9, ← u10, ← u11, ← u12, ← u13, ← u15, ← u16]
    exact key
  exact congrArg (fun x => (⟨⟨x⟩, []⟩ : Act)) k2
noncomputable def gateP : Code := inElse (dropS 1 (inElse (dropS 1 (inElse (dropS 1 (inElse (dropS 1 actP)))))))
theorem Play.reg {R : Nat → Prop} {w0 w : World} {s C B n : Nat} {v : Int → Nat → Int} {u : Nat → Int} {r : Nat → Int} (h : Play R w0 w s C B n v u r) {i : Nat} (hi : i < 16) {y : Int} (hy : r i = y) {W : World} (hW : ∃ d, W = w.drewN d) :
    Calls Try.prog 16 #[.pointer (some ⟨C, 0, none⟩), .int .i64 i] W fun e w' => e = .returned (.int .u64 y) ∧ W = w' := by
  obtain ⟨d, rfl⟩ := hW
  rw [← hy]
  refine (reg_any (w.drewN d) C i r hi (h.drewN d).cpu).mono ?_
  rintro e w' ⟨rfl, rfl⟩
  exact ⟨rfl, rfl⟩
theorem getV_wrap (v : Int → Nat → Int) (t x : Int) (h0 : -9223372036854775808 ≤ x) (h1 : x ≤ 9223372036854775807) : getV v t (min (IntKind.u64.wrap x) 32) = getV v t x := by
  by_cases c : 0 ≤ x ∧ x < 32
  · rw [show min (IntKind.u64.wrap x) 32 = x by rw [IntKind.wrap_u64]; omega]
  · rw [show min (IntKind.u64.wrap x) 32 = 32 by rw [IntKind.wrap_u64]; omega]
    unfold getV
    rw [if_neg (by omega), if_neg (by omega)]
set_option maxHeartbeats 8000000 in
theorem gate_get (R : Nat → Prop) (w0 w : World) (s C B n D P : Nat) (v : Int → Nat → Int) (u r : Nat → Int) (ov : Int) (v0 v4 v7 : Value) (t x : Int) (inn ow : Bool) (HP : Hid (Play R w0 w s C B n v u r)) (HA : Hid (Agrees v u)) (hn : n ≤ 90) (hr0 : r 0 = 7) (hr1 : r 1 = IntKind.u64.wrap x) (hr2 : r 2 = ov)
    (HD : Hid (R D ∧ D ≠ C ∧ D ≠ B ∧ w0.heap.size ≤ D)) (HF : Hid (w.cell? ⟨D, 4, none⟩ = some (.int .u64 ov))) (HP0 : Hid (R P ∧ P ≠ C ∧ P ≠ B ∧ w0.heap.size ≤ P ∧ P ≠ D)) (HPC : Hid (w.cell? ⟨P, 0, none⟩ = some (.slice none 0 0))) (HPZ : Hid (w.frozen? ⟨P, 0, none⟩ = false)) (hwf : (Lit.int .i64 t).wf = true) (hx0 : -9223372036854775808 ≤ x) (hx1 : x ≤ 9223372036854775807) (Q : Exit → Act → World → Prop) (a : Act)
    (ha : Has 246 [0, 3, 4, 5, 6, 7, 8, 9, 10, 11, 12, 13, 15, 16] [v0, .pointer (some ⟨s, 0, none⟩), v4, .pointer (some ⟨C, 0, none⟩), .pointer (some ⟨B, 0, none⟩), v7, .pointer (some ⟨D, 0, none⟩), .int .i64 t, .int .i64 x, .bool inn, .bool ow, .int .u64 (getV v t x), .int .i64 33, .pointer (some ⟨P, 0, none⟩)] a) (hK : ∀ a' w' n' v' u' r', Has 246 [0, 3, 4, 5, 6, 7] [v0, .pointer (some ⟨s, 0, none⟩), v4, .pointer (some ⟨C, 0, none⟩), .pointer (some ⟨B, 0, none⟩), v7] a' → n' ≤ n + 1 → Play R w0 w' s C B n' v' u' r' → Agrees v' u' → Q .normal a' w') : (dropS 5 gateP).wp Try.prog Q a w := by
  obtain ⟨u0, rfl⟩ := topen_0_3_4_5_6_7_8_9_10_11_12_13_15_16 ha
  clear ha
  have HK := Lib.hid hK
  clear hK
  conv => arg 2; whnf
  have hw0 : 0 ≤ r 1 ∧ r 1 < 18446744073709551616 := by rw [hr1, IntKind.wrap_u64]; omega
  have HG := Lib.hid (do_get R w C s n v t r (.func (.func 15) #[] #[.pointer (some ⟨P, 0, none⟩)]) hwf hw0.1 hw0.2 HP.out.cpu HP.out.slots)
  have hmf : ∀ (fn : Fn) (first cap : Array Value) (w : World), (Instr.makeFunc fn first cap).run Try.prog w = .ok (.func fn first cap) w := fun _ _ _ _ => rfl
  go_wp2_with fail
  refine HG.out.mono ?_
  rintro e w1 ⟨rfl, hw1⟩
  have hgv : getV v t (min (r 1) 32) = getV v t x := by rw [hr1]; exact getV_wrap v t x hx0 hx1
  rw [hgv] at hw1
  have HP1 := Lib.hid (show Play R w0 w1 s C B n v u (fun j => if j = 0 then getV v t x else r j) from by rw [hw1]; exact HP.out.setReg (i := 0) (by omega) _)
  have HCP := Lib.hid (show w1.cell? ⟨P, 0, none⟩ = some (.slice none 0 0) from by rw [hw1]; exact (World.cell?_setCell_other w ⟨C, 1 + 0, none⟩ ⟨P, 0, none⟩ _ (fun e => HP0.out.2.1 (by injection e with e _; exact e.symm))).trans HPC.out)
  have HCD := Lib.hid (show w1.cell? ⟨D, 4, none⟩ = some (.int .u64 ov) from by rw [hw1]; exact (World.cell?_setCell_other w ⟨C, 1 + 0, none⟩ ⟨D, 4, none⟩ _ (fun e => HD.out.2.1 (by injection e with e _; exact e.symm))).trans HF.out)
  have hy0 : (fun j => if j = 0 then getV v t x else r j) 0 = getV v t x := rfl
  have hy1 : (fun j => if j = 0 then getV v t x else r j) 1 = IntKind.u64.wrap x := hr1
  have hy2 : (fun j => if j = 0 then getV v t x else r j) 2 = ov := hr2
  clear hw1 hgv HG hw0 hr0 hr1 hr2
  have HR0 := Lib.hid (fun W (hW : ∃ d, W = w1.drewN d) => show Calls Try.prog 16 #[.pointer (some ⟨C, 0, none⟩), .int .i64 0] W fun e w' => e = .returned (.int .u64 (getV v t x)) ∧ W = w' from HP1.out.reg (i := 0) (by omega) hy0 hW)
  have HR1 := Lib.hid (fun W (hW : ∃ d, W = w1.drewN d) => show Calls Try.prog 16 #[.pointer (some ⟨C, 0, none⟩), .int .i64 1] W fun e w' => e = .returned (.int .u64 (IntKind.u64.wrap x)) ∧ W = w' from HP1.out.reg (i := 1) (by omega) hy1 hW)
  have HR2 := Lib.hid (fun W (hW : ∃ d, W = w1.drewN d) => show Calls Try.prog 16 #[.pointer (some ⟨C, 0, none⟩), .int .i64 2] W fun e w' => e = .returned (.int .u64 (ov)) ∧ W = w' from HP1.out.reg (i := 2) (by omega) hy2 hW)
  go_upto_region 40 with (fail)
  have HS := Lib.hid (show ∃ d, w1.drew = w1.drewN d from ⟨1, rfl⟩)
  refine wp_region_noPanic ?_
  refine wp_region_K (fun W => ∃ d, W = w1.drewN d) (fun _ => True) 99 (by kernel_rfl) ?_
  refine wpAnyK_take (i := 0) (oi := ?_) (v := ?_) ?_ (by kernel_rfl) (by kernel_rfl) (by kernel_rfl) (fun _ _ _ h => h) (by decide) ?_ HS.out (fun _ => trivial) ?_
  rotate_left 2
  · (simp only [List.getElem?_toArray, List.getElem?_cons_succ, List.getElem?_cons_zero]; rfl)
  · (first | exact Or.inr ⟨by rfl, rfl⟩ | (refine Or.inl ⟨by rfl, ?_⟩; intro W hSw; obtain ⟨d, hd⟩ := id hSw; have hq : W.cell? ⟨P, 0, none⟩ = some (.slice none 0 0) := (by subst hd; exact HCP.out); clear hd; clear hSw; go_simp; try with_reducible rfl))
  try simp only [Act.put, List.setIfInBounds_toArray, List.set_cons_zero, List.set_cons_succ]
  refine wpAnyK_take (i := 1) (oi := ?_) (v := ?_) ?_ (by kernel_rfl) (by kernel_rfl) (by kernel_rfl) (fun _ _ _ h => h) (by decide) ?_ HS.out (fun _ => trivial) ?_
  rotate_left 2
  · (simp only [List.getElem?_toArray, List.getElem?_cons_succ, List.getElem?_cons_zero]; rfl)
  · (first | exact Or.inr ⟨by rfl, rfl⟩ | (refine Or.inl ⟨by rfl, ?_⟩; intro W hSw; clear hSw; go_simp; try with_reducible rfl))
  try simp only [Act.put, List.setIfInBounds_toArray, List.set_cons_zero, List.set_cons_succ]
  refine wpAnyK_take (i := 2) (oi := ?_) (v := ?_) ?_ (by kernel_rfl) (by kernel_rfl) (by kernel_rfl) (fun _ _ _ h => h) (by decide) ?_ HS.out (fun _ => trivial) ?_
  rotate_left 2
  · (simp only [List.getElem?_toArray, List.getElem?_cons_succ, List.getElem?_cons_zero]; rfl)
  · (first | exact Or.inr ⟨by rfl, rfl⟩ | (refine Or.inl ⟨by rfl, ?_⟩; intro W hSw; clear hSw; go_simp; try with_reducible rfl))
  try simp only [Act.put, List.setIfInBounds_toArray, List.set_cons_zero, List.set_cons_succ]
  refine wpAnyK_take (i := 3) (oi := ?_) (v := ?_) ?_ (by kernel_rfl) (by kernel_rfl) (by kernel_rfl) (fun _ _ _ h => h) (by decide) ?_ HS.out (fun _ => trivial) ?_
  rotate_left 2
  · (simp only [List.getElem?_toArray, List.getElem?_cons_succ, List.getElem?_cons_zero]; rfl)
  · (first | exact Or.inr ⟨by rfl, rfl⟩ | (refine Or.inl ⟨by rfl, ?_⟩; intro W hSw; clear hSw; go_simp; try with_reducible rfl))
  try simp only [Act.put, List.setIfInBounds_toArray, List.set_cons_zero, List.set_cons_succ]
  refine wpAnyK_take (i := 4) (oi := ?_) (v := ?_) ?_ (by kernel_rfl) (by kernel_rfl) (by kernel_rfl) (fun _ _ _ h => h) (by decide) ?_ HS.out (fun _ => trivial) ?_
  rotate_left 2
  · (simp only [List.getElem?_toArray, List.getElem?_cons_succ, List.getElem?_cons_zero]; rfl)
  · (first | exact Or.inr ⟨by rfl, rfl⟩ | (refine Or.inl ⟨by rfl, ?_⟩; intro W hSw; clear hSw; go_simp; try with_reducible rfl))
  try simp only [Act.put, List.setIfInBounds_toArray, List.set_cons_zero, List.set_cons_succ]
  refine wpAnyK_take (i := 5) (oi := ?_) (v := ?_) ?_ (by kernel_rfl) (by kernel_rfl) (by kernel_rfl) (fun _ _ _ h => h) (by decide) ?_ HS.out (fun _ => trivial) ?_
  rotate_left 2
  · (simp only [List.getElem?_toArray, List.getElem?_cons_succ, List.getElem?_cons_zero]; rfl)
  · (first | exact Or.inr ⟨by rfl, rfl⟩ | (refine Or.inl ⟨by rfl, ?_⟩; intro W hSw; clear hSw; go_simp; try with_reducible rfl))
  try simp only [Act.put, List.setIfInBounds_toArray, List.set_cons_zero, List.set_cons_succ]
  refine wpAnyK_take (i := 6) (oi := ?_) (v := ?_) ?_ (by kernel_rfl) (by kernel_rfl) (by kernel_rfl) (fun _ _ _ h => h) (by decide) ?_ HS.out (fun _ => trivial) ?_
  rotate_left 2
  · (simp only [List.getElem?_toArray, List.getElem?_cons_succ, List.getElem?_cons_zero]; rfl)
  · (first | exact Or.inr ⟨by rfl, rfl⟩ | (refine Or.inl ⟨by rfl, ?_⟩; intro W hSw; clear hSw; go_simp; try with_reducible rfl))
  try simp only [Act.put, List.setIfInBounds_toArray, List.set_cons_zero, List.set_cons_succ]
  refine wpAnyK_take (i := 7) (oi := ?_) (v := ?_) ?_ (by kernel_rfl) (by kernel_rfl) (by kernel_rfl) (fun _ _ _ h => h) (by decide) ?_ HS.out (fun _ => trivial) ?_
  rotate_left 2
  · (simp only [List.getElem?_toArray, List.getElem?_cons_succ, List.getElem?_cons_zero]; rfl)
  · (first | exact Or.inr ⟨by rfl, rfl⟩ | (refine Or.inl ⟨by rfl, ?_⟩; intro W hSw; clear hSw; go_simp; try with_reducible rfl))
  try simp only [Act.put, List.setIfInBounds_toArray, List.set_cons_zero, List.set_cons_succ]
  refine wpAnyK_take (i := 8) (oi := ?_) (v := ?_) ?_ (by kernel_rfl) (by kernel_rfl) (by kernel_rfl) (fun _ _ _ h => h) (by decide) ?_ HS.out (fun _ => trivial) ?_
  rotate_left 2
  · (simp only [List.getElem?_toArray, List.getElem?_cons_succ, List.getElem?_cons_zero]; rfl)
  · (first | exact Or.inr ⟨by rfl, rfl⟩ | (refine Or.inl ⟨by rfl, ?_⟩; intro W hSw; clear hSw; go_simp; try with_reducible rfl))
  try simp only [Act.put, List.setIfInBounds_toArray, List.set_cons_zero, List.set_cons_succ]
  refine wpAnyK_take (i := 9) (oi := ?_) (v := ?_) ?_ (by kernel_rfl) (by kernel_rfl) (by kernel_rfl) (fun _ _ _ h => h) (by decide) ?_ HS.out (fun _ => trivial) ?_
  rotate_left 2
  · (simp only [List.getElem?_toArray, List.getElem?_cons_succ, List.getElem?_cons_zero]; rfl)
  · (first | exact Or.inr ⟨by rfl, rfl⟩ | (refine Or.inl ⟨by rfl, ?_⟩; intro W hSw; clear hSw; go_simp; try with_reducible rfl))
  try simp only [Act.put, List.setIfInBounds_toArray, List.set_cons_zero, List.set_cons_succ]
  refine wpAnyK_take (i := 10) (oi := ?_) (v := undef) ?_ (by kernel_rfl) (by kernel_rfl) (by kernel_rfl) (fun _ _ _ h => h) (by decide) ?_ HS.out (fun _ => trivial) ?_
  rotate_left 1
  · (simp only [List.getElem?_toArray, List.getElem?_cons_succ, List.getElem?_cons_zero]; rfl)
  · exact Or.inr ⟨by rfl, rfl⟩
  try simp only [Act.put, List.setIfInBounds_toArray, List.set_cons_zero, List.set_cons_succ]
  refine wpAnyK_take (i := 11) (oi := ?_) (v := undef) ?_ (by kernel_rfl) (by kernel_rfl) (by kernel_rfl) (fun _ _ _ h => h) (by decide) ?_ HS.out (fun _ => trivial) ?_
  rotate_left 1
  · (simp only [List.getElem?_toArray, List.getElem?_cons_succ, List.getElem?_cons_zero]; rfl)
  · exact Or.inr ⟨by rfl, rfl⟩
  try simp only [Act.put, List.setIfInBounds_toArray, List.set_cons_zero, List.set_cons_succ]
  refine wpAnyK_take (i := 12) (oi := ?_) (v := undef) ?_ (by kernel_rfl) (by kernel_rfl) (by kernel_rfl) (fun _ _ _ h => h) (by decide) ?_ HS.out (fun _ => trivial) ?_
  rotate_left 1
  · (simp only [List.getElem?_toArray, List.getElem?_cons_succ, List.getElem?_cons_zero]; rfl)
  · exact Or.inr ⟨by rfl, rfl⟩
  try simp only [Act.put, List.setIfInBounds_toArray, List.set_cons_zero, List.set_cons_succ]
  refine wpAnyK_take (i := 13) (oi := ?_) (v := undef) ?_ (by kernel_rfl) (by kernel_rfl) (by kernel_rfl) (fun _ _ _ h => h) (by decide) ?_ HS.out (fun _ => trivial) ?_
  rotate_left 1
  · (simp only [List.getElem?_toArray, List.getElem?_cons_succ, List.getElem?_cons_zero]; rfl)
  · exact Or.inr ⟨by rfl, rfl⟩
  try simp only [Act.put, List.setIfInBounds_toArray, List.set_cons_zero, List.set_cons_succ]
  refine wpAnyK_take (i := 14) (oi := ?_) (v := undef) ?_ (by kernel_rfl) (by kernel_rfl) (by kernel_rfl) (fun _ _ _ h => h) (by decide) ?_ HS.out (fun _ => trivial) ?_
  rotate_left 1
  · (simp only [List.getElem?_toArray, List.getElem?_cons_succ, List.getElem?_cons_zero]; rfl)
  · exact Or.inr ⟨by rfl, rfl⟩
  try simp only [Act.put, List.setIfInBounds_toArray, List.set_cons_zero, List.set_cons_succ]
  refine wpAnyK_take (i := 15) (oi := ?_) (v := undef) ?_ (by kernel_rfl) (by kernel_rfl) (by kernel_rfl) (fun _ _ _ h => h) (by decide) ?_ HS.out (fun _ => trivial) ?_
  rotate_left 1
  · (simp only [List.getElem?_toArray, List.getElem?_cons_succ, List.getElem?_cons_zero]; rfl)
  · exact Or.inr ⟨by rfl, rfl⟩
  try simp only [Act.put, List.setIfInBounds_toArray, List.set_cons_zero, List.set_cons_succ]
  refine wpAnyK_take (i := 16) (oi := ?_) (v := ?_) ?_ (by kernel_rfl) (by kernel_rfl) (by kernel_rfl) (fun _ _ _ h => h) (by decide) ?_ HS.out (fun _ => trivial) ?_
  rotate_left 2
  · (simp only [List.getElem?_toArray, List.getElem?_cons_succ, List.getElem?_cons_zero]; rfl)
  · (first | exact Or.inr ⟨by rfl, rfl⟩ | (refine Or.inl ⟨by rfl, ?_⟩; intro W hSw; clear hSw; go_simp; try with_reducible rfl))
  try simp only [Act.put, List.setIfInBounds_toArray, List.set_cons_zero, List.set_cons_succ]
  refine wpAnyK_take (i := 17) (oi := ?_) (v := ?_) ?_ (by kernel_rfl) (by kernel_rfl) (by kernel_rfl) (fun _ _ _ h => h) (by decide) ?_ HS.out (fun _ => trivial) ?_
  rotate_left 2
  · (simp only [List.getElem?_toArray, List.getElem?_cons_succ, List.getElem?_cons_zero]; rfl)
  · (first | exact Or.inr ⟨by rfl, rfl⟩ | (refine Or.inl ⟨by rfl, ?_⟩; intro W hSw; clear hSw; go_simp; try with_reducible rfl))
  try simp only [Act.put, List.setIfInBounds_toArray, List.set_cons_zero, List.set_cons_succ]
  refine wpAnyK_take (i := 18) (oi := ?_) (v := ?_) ?_ (by kernel_rfl) (by kernel_rfl) (by kernel_rfl) (fun _ _ _ h => h) (by decide) ?_ HS.out (fun _ => trivial) ?_
  rotate_left 2
  · (simp only [List.getElem?_toArray, List.getElem?_cons_succ, List.getElem?_cons_zero]; rfl)
  · (first | exact Or.inr ⟨by rfl, rfl⟩ | (refine Or.inl ⟨by rfl, ?_⟩; intro W hSw; clear hSw; go_simp; try with_reducible rfl))
  try simp only [Act.put, List.setIfInBounds_toArray, List.set_cons_zero, List.set_cons_succ]
  refine wpAnyK_take (i := 19) (oi := ?_) (v := ?_) ?_ (by kernel_rfl) (by kernel_rfl) (by kernel_rfl) (fun _ _ _ h => h) (by decide) ?_ HS.out (fun _ => trivial) ?_
  rotate_left 2
  · (simp only [List.getElem?_toArray, List.getElem?_cons_succ, List.getElem?_cons_zero]; rfl)
  · (first | exact Or.inr ⟨by rfl, rfl⟩ | (refine Or.inl ⟨by rfl, ?_⟩; intro W hSw; clear hSw; go_simp; try with_reducible rfl))
  try simp only [Act.put, List.setIfInBounds_toArray, List.set_cons_zero, List.set_cons_succ]
  refine wpAnyK_takeQ (i := 20) (oi := ?_) (v := .int .u64 (getV v t x)) ?_ (by kernel_rfl) (by kernel_rfl) (by kernel_rfl) (fun _ _ _ h => h) (by decide) ?_ HS.out (fun _ => trivial) ?_
  rotate_left 1
  · (simp only [List.getElem?_toArray, List.getElem?_cons_succ, List.getElem?_cons_zero]; rfl)
  · refine ⟨by rfl, fun W hW => ⟨16, #[.pointer (some ⟨C, 0, none⟩), .int .i64 0], ?_, HR0.out W hW⟩⟩
    first | kernel_rfl | (go_simp; done) | rfl
  try simp only [Act.put, List.setIfInBounds_toArray, List.set_cons_zero, List.set_cons_succ]
  refine wpAnyK_take (i := 21) (oi := ?_) (v := ?_) ?_ (by kernel_rfl) (by kernel_rfl) (by kernel_rfl) (fun _ _ _ h => h) (by decide) ?_ HS.out (fun _ => trivial) ?_
  rotate_left 2
  · (simp only [List.getElem?_toArray, List.getElem?_cons_succ, List.getElem?_cons_zero]; rfl)
  · (first | exact Or.inr ⟨by rfl, rfl⟩ | (refine Or.inl ⟨by rfl, ?_⟩; intro W hSw; clear hSw; go_simp; try with_reducible rfl))
  try simp only [Act.put, List.setIfInBounds_toArray, List.set_cons_zero, List.set_cons_succ]
  refine wpAnyK_take (i := 22) (oi := ?_) (v := ?_) ?_ (by kernel_rfl) (by kernel_rfl) (by kernel_rfl) (fun _ _ _ h => h) (by decide) ?_ HS.out (fun _ => trivial) ?_
  rotate_left 2
  · (simp only [List.getElem?_toArray, List.getElem?_cons_succ, List.getElem?_cons_zero]; rfl)
  · (first | exact Or.inr ⟨by rfl, rfl⟩ | (refine Or.inl ⟨by rfl, ?_⟩; intro W hSw; clear hSw; go_simp; try with_reducible rfl))
  try simp only [Act.put, List.setIfInBounds_toArray, List.set_cons_zero, List.set_cons_succ]
  refine wpAnyK_take (i := 23) (oi := ?_) (v := ?_) ?_ (by kernel_rfl) (by kernel_rfl) (by kernel_rfl) (fun _ _ _ h => h) (by decide) ?_ HS.out (fun _ => trivial) ?_
  rotate_left 2
  · (simp only [List.getElem?_toArray, List.getElem?_cons_succ, List.getElem?_cons_zero]; rfl)
  · (first | exact Or.inr ⟨by rfl, rfl⟩ | (refine Or.inl ⟨by rfl, ?_⟩; intro W hSw; clear hSw; go_simp; try with_reducible rfl))
  try simp only [Act.put, List.setIfInBounds_toArray, List.set_cons_zero, List.set_cons_succ]
  refine wpAnyK_take (i := 24) (oi := ?_) (v := ?_) ?_ (by kernel_rfl) (by kernel_rfl) (by kernel_rfl) (fun _ _ _ h => h) (by decide) ?_ HS.out (fun _ => trivial) ?_
  rotate_left 2
  · (simp only [List.getElem?_toArray, List.getElem?_cons_succ, List.getElem?_cons_zero]; rfl)
  · (first | exact Or.inr ⟨by rfl, rfl⟩ | (refine Or.inl ⟨by rfl, ?_⟩; intro W hSw; clear hSw; go_simp; try with_reducible rfl))
  try simp only [Act.put, List.setIfInBounds_toArray, List.set_cons_zero, List.set_cons_succ]
  refine wpAnyK_take (i := 25) (oi := ?_) (v := ?_) ?_ (by kernel_rfl) (by kernel_rfl) (by kernel_rfl) (fun _ _ _ h => h) (by decide) ?_ HS.out (fun _ => trivial) ?_
  rotate_left 2
  · (simp only [List.getElem?_toArray, List.getElem?_cons_succ, List.getElem?_cons_zero]; rfl)
  · (first | exact Or.inr ⟨by rfl, rfl⟩ | (refine Or.inl ⟨by rfl, ?_⟩; intro W hSw; clear hSw; go_simp; try with_reducible rfl))
  try simp only [Act.put, List.setIfInBounds_toArray, List.set_cons_zero, List.set_cons_succ]
  refine wpAnyK_takeQ (i := 26) (oi := ?_) (v := .int .u64 (IntKind.u64.wrap x)) ?_ (by kernel_rfl) (by kernel_rfl) (by kernel_rfl) (fun _ _ _ h => h) (by decide) ?_ HS.out (fun _ => trivial) ?_
  rotate_left 1
  · (simp only [List.getElem?_toArray, List.getElem?_cons_succ, List.getElem?_cons_zero]; rfl)
  · refine ⟨by rfl, fun W hW => ⟨16, #[.pointer (some ⟨C, 0, none⟩), .int .i64 1], ?_, HR1.out W hW⟩⟩
    first | kernel_rfl | (go_simp; done) | rfl
  try simp only [Act.put, List.setIfInBounds_toArray, List.set_cons_zero, List.set_cons_succ]
  refine wpAnyK_take (i := 27) (oi := ?_) (v := ?_) ?_ (by kernel_rfl) (by kernel_rfl) (by kernel_rfl) (fun _ _ _ h => h) (by decide) ?_ HS.out (fun _ => trivial) ?_
  rotate_left 2
  · (simp only [List.getElem?_toArray, List.getElem?_cons_succ, List.getElem?_cons_zero]; rfl)
  · (first | exact Or.inr ⟨by rfl, rfl⟩ | (refine Or.inl ⟨by rfl, ?_⟩; intro W hSw; clear hSw; go_simp; try with_reducible rfl))
  try simp only [Act.put, List.setIfInBounds_toArray, List.set_cons_zero, List.set_cons_succ]
  refine wpAnyK_take (i := 28) (oi := ?_) (v := ?_) ?_ (by kernel_rfl) (by kernel_rfl) (by kernel_rfl) (fun _ _ _ h => h) (by decide) ?_ HS.out (fun _ => trivial) ?_
  rotate_left 2
  · (simp only [List.getElem?_toArray, List.getElem?_cons_succ, List.getElem?_cons_zero]; rfl)
  · (first | exact Or.inr ⟨by rfl, rfl⟩ | (refine Or.inl ⟨by rfl, ?_⟩; intro W hSw; clear hSw; go_simp; try with_reducible rfl))
  try simp only [Act.put, List.setIfInBounds_toArray, List.set_cons_zero, List.set_cons_succ]
  refine wpAnyK_take (i := 29) (oi := ?_) (v := ?_) ?_ (by kernel_rfl) (by kernel_rfl) (by kernel_rfl) (fun _ _ _ h => h) (by decide) ?_ HS.out (fun _ => trivial) ?_
  rotate_left 2
  · (simp only [List.getElem?_toArray, List.getElem?_cons_succ, List.getElem?_cons_zero]; rfl)
  · (first | exact Or.inr ⟨by rfl, rfl⟩ | (refine Or.inl ⟨by rfl, ?_⟩; intro W hSw; clear hSw; go_simp; try with_reducible rfl))
  try simp only [Act.put, List.setIfInBounds_toArray, List.set_cons_zero, List.set_cons_succ]
  refine wpAnyK_take (i := 30) (oi := ?_) (v := ?_) ?_ (by kernel_rfl) (by kernel_rfl) (by kernel_rfl) (fun _ _ _ h => h) (by decide) ?_ HS.out (fun _ => trivial) ?_
  rotate_left 2
  · (simp only [List.getElem?_toArray, List.getElem?_cons_succ, List.getElem?_cons_zero]; rfl)
  · (first | exact Or.inr ⟨by rfl, rfl⟩ | (refine Or.inl ⟨by rfl, ?_⟩; intro W hSw; clear hSw; go_simp; try with_reducible rfl))
  try simp only [Act.put, List.setIfInBounds_toArray, List.set_cons_zero, List.set_cons_succ]
  refine wpAnyK_take (i := 31) (oi := ?_) (v := ?_) ?_ (by kernel_rfl) (by kernel_rfl) (by kernel_rfl) (fun _ _ _ h => h) (by decide) ?_ HS.out (fun _ => trivial) ?_
  rotate_left 2
  · (simp only [List.getElem?_toArray, List.getElem?_cons_succ, List.getElem?_cons_zero]; rfl)
  · (first | exact Or.inr ⟨by rfl, rfl⟩ | (refine Or.inl ⟨by rfl, ?_⟩; intro W hSw; clear hSw; go_simp; try with_reducible rfl))
  try simp only [Act.put, List.setIfInBounds_toArray, List.set_cons_zero, List.set_cons_succ]
  refine wpAnyK_take (i := 32) (oi := ?_) (v := ?_) ?_ (by kernel_rfl) (by kernel_rfl) (by kernel_rfl) (fun _ _ _ h => h) (by decide) ?_ HS.out (fun _ => trivial) ?_
  rotate_left 2
  · (simp only [List.getElem?_toArray, List.getElem?_cons_succ, List.getElem?_cons_zero]; rfl)
  · (first | exact Or.inr ⟨by rfl, rfl⟩ | (refine Or.inl ⟨by rfl, ?_⟩; intro W hSw; clear hSw; go_simp; try with_reducible rfl))
  try simp only [Act.put, List.setIfInBounds_toArray, List.set_cons_zero, List.set_cons_succ]
  refine wpAnyK_takeQ (i := 33) (oi := ?_) (v := .int .u64 ov) ?_ (by kernel_rfl) (by kernel_rfl) (by kernel_rfl) (fun _ _ _ h => h) (by decide) ?_ HS.out (fun _ => trivial) ?_
  rotate_left 1
  · (simp only [List.getElem?_toArray, List.getElem?_cons_succ, List.getElem?_cons_zero]; rfl)
  · refine ⟨by rfl, fun W hW => ⟨16, #[.pointer (some ⟨C, 0, none⟩), .int .i64 2], ?_, HR2.out W hW⟩⟩
    first | kernel_rfl | (go_simp; done) | rfl
  try simp only [Act.put, List.setIfInBounds_toArray, List.set_cons_zero, List.set_cons_succ]
  refine wpAnyK_take (i := 34) (oi := ?_) (v := ?_) ?_ (by kernel_rfl) (by kernel_rfl) (by kernel_rfl) (fun _ _ _ h => h) (by decide) ?_ HS.out (fun _ => trivial) ?_
  rotate_left 2
  · (simp only [List.getElem?_toArray, List.getElem?_cons_succ, List.getElem?_cons_zero]; rfl)
  · (first | exact Or.inr ⟨by rfl, rfl⟩ | (refine Or.inl ⟨by rfl, ?_⟩; intro W hSw; clear hSw; go_simp; try with_reducible rfl))
  try simp only [Act.put, List.setIfInBounds_toArray, List.set_cons_zero, List.set_cons_succ]
  refine wpAnyK_take (i := 35) (oi := ?_) (v := ?_) ?_ (by kernel_rfl) (by kernel_rfl) (by kernel_rfl) (fun _ _ _ h => h) (by decide) ?_ HS.out (fun _ => trivial) ?_
  rotate_left 2
  · (simp only [List.getElem?_toArray, List.getElem?_cons_succ, List.getElem?_cons_zero]; rfl)
  · (first | exact Or.inr ⟨by rfl, rfl⟩ | (refine Or.inl ⟨by rfl, ?_⟩; intro W hSw; obtain ⟨d, hd⟩ := id hSw; have hq : W.cell? ⟨D, 4, none⟩ = some (.int .u64 ov) := (by subst hd; exact HCD.out); clear hd; clear hSw; go_simp; try with_reducible rfl))
  try simp only [Act.put, List.setIfInBounds_toArray, List.set_cons_zero, List.set_cons_succ]
  refine wpAnyK_take (i := 36) (oi := ?_) (v := ?_) ?_ (by kernel_rfl) (by kernel_rfl) (by kernel_rfl) (fun _ _ _ h => h) (by decide) ?_ HS.out (fun _ => trivial) ?_
  rotate_left 2
  · (simp only [List.getElem?_toArray, List.getElem?_cons_succ, List.getElem?_cons_zero]; rfl)
  · (first | exact Or.inr ⟨by rfl, rfl⟩ | (refine Or.inl ⟨by rfl, ?_⟩; intro W hSw; clear hSw; go_simp; try with_reducible rfl))
  try simp only [Act.put, List.setIfInBounds_toArray, List.set_cons_zero, List.set_cons_succ]
  refine wpAnyK_take (i := 37) (oi := ?_) (v := ?_) ?_ (by kernel_rfl) (by kernel_rfl) (by kernel_rfl) (fun _ _ _ h => h) (by decide) ?_ HS.out (fun _ => trivial) ?_
  rotate_left 2
  · (simp only [List.getElem?_toArray, List.getElem?_cons_succ, List.getElem?_cons_zero]; rfl)
  · (first | exact Or.inr ⟨by rfl, rfl⟩ | (refine Or.inl ⟨by rfl, ?_⟩; intro W hSw; clear hSw; go_simp; try with_reducible rfl))
  try simp only [Act.put, List.setIfInBounds_toArray, List.set_cons_zero, List.set_cons_succ]
  refine wpAnyK_done (by kernel_rfl) ?_ _
  refine NoPanic.normal ?_
  go_wp2_with fail
  refine HK.out _ _ _ _ _ _ ⟨rfl, rfl, rfl⟩ (by omega) HP1.out.drew HA.out
end Go.Proofs.Ytijggmioknneoaa
