/- The document's answer on what an image offers, Exports: frames. · The document's answer on what an image offers, Exports: the names. · The document's answer on what an image offers, Exports: the functions. · The document's answer on what an image offers, Exports: the numbers of the directory. · The document's answer on what an image offers: Exports tells what parseE tells. -/
import Derived.Test.YtbjabncefhgefaaMgA
import Derived.Test.YtbjabncefhgefaaExpE
import Derived.Test.YtbjabncefhgefaaExpG
import Derived.Test.YtbjabncefhgefaaPieces
namespace Go.Proofs.Ytbjabncefhgefaa
open Go.ChangeShapes Go.WideShapes Go.ChangeAt Go.RowKit
set_option linter.unusedVariables false
set_option linter.unusedSimpArgs false

noncomputable def bodyX : Code := (Try.f16.body).getD .skip
/-- What Exports is to come to. -/
def QX (w : World) (r : Option ExpV) : Exit → Act → World → Prop :=
  bodyPost Try.prog Try.f16 fun e w' => ParseE w w' r e ∧ Below w.heap.size w w'
theorem less_other : ∀ (t s : List Nat), (!lessL s t) = leqL t s
  | [], [] => rfl
  | [], _ :: _ => rfl
  | _ :: _, [] => rfl
  | a :: x, b :: y => by
    have ih := less_other x y
    simp only [leqL] at ih ⊢
    simp only [lessL]
    rcases Nat.lt_trichotomy a b with h | h | h
    · have h1 : ¬ b < a := by omega
      have h2 : (b == a) = false := beq_eq_false_iff_ne.mpr (by omega)
      have h3 : (a == b) = false := beq_eq_false_iff_ne.mpr (by omega)
      simp [h, h1, h2]
    · subst h
      simp at ih ⊢
      exact ih
    · have h1 : ¬ a < b := by omega
      have h2 : (b == a) = false := beq_eq_false_iff_ne.mpr (by omega)
      have h3 : (a == b) = false := beq_eq_false_iff_ne.mpr (by omega)
      have h4 : ¬ a = b := by omega
      simp [h, h1, h2, h3, h4]
theorem less_txt {t s : List Nat} (ht : Lb t) (hs : Lb s) : Op.bytesLess (txt s).toList (txt t).toList = !leqL t s := by
  rw [txt_list ht, txt_list hs, less_map s t hs ht, ← less_other, Bool.not_not]
theorem expOne2 {n : Int} {A A' : Option Addr} {a b c d : Nat} : (#[.int .i64 n, .slice A a b, .slice A' c d] : Array Value).all (·.oneCell') = true := by simp [Value.oneCell']
theorem ownT_setBelow {α : Type} {C : α → List Value} {sz : Nat} {w : World} {base : Nat} {e : TypeId} {v : Value} {l : List α} (h : OwnT C sz w base e v l) {a : Addr} (ha : a.block < base) (u : Value) : OwnT C sz (w.setCell a u) base e v l :=
  ownsRow_setCell_below h ha u
theorem ownT_setRowBelow {α : Type} {C : α → List Value} {sz : Nat} {w : World} {base : Nat} {e : TypeId} {v : Value} {l : List α} (h : OwnT C sz w base e v l) {g : Nat} (hg : g < base) (cs : Array Value) : OwnT C sz (w.setRow g cs) base e v l :=
  h.of_block fun k hk => setRow_other w _ _ _ (by have := (h.lt k hk).1; omega)
set_option maxRecDepth 100000
theorem range244 {α : Type} (f : Nat → α) : (List.range 244).map f = (f 0 :: f 1 :: f 2 :: f 3 :: f 4 :: f 5 :: f 6 :: f 7 :: f 8 :: f 9 :: f 10 :: f 11 :: f 12 :: f 13 :: f 14 :: f 15 :: f 16 :: f 17 :: f 18 :: f 19 :: f 20 :: f 21 :: f 22 :: f 23 :: f 24 :: f 25 :: f 26 :: f 27 :: f 28 :: f 29 :: f 30 :: f 31 :: f 32 :: f 33 :: f 34 :: f 35 :: f 36 :: f 37 :: f 38 :: f 39 :: f 40 :: f 41 :: f 42 :: f 43 :: f 44 :: f 45 :: f 46 :: f 47 :: f 48 :: f 49 :: f 50 :: f 51 :: f 52 :: f 53 :: f 54 :: f 55 :: f 56 :: f 57 :: f 58 :: f 59 :: f 60 :: f 61 :: f 62 :: f 63 :: f 64 :: f 65 :: f 66 :: f 67 :: f 68 :: f 69 :: f 70 :: f 71 :: f 72 :: f 73 :: f 74 :: f 75 :: f 76 :: f 77 :: f 78 :: f 79 :: f 80 :: f 81 :: f 82 :: f 83 :: f 84 :: f 85 :: f 86 :: f 87 :: f 88 :: f 89 :: f 90 :: f 91 :: f 92 :: f 93 :: f 94 :: f 95 :: f 96 :: f 97 :: f 98 :: f 99 :: f 100 :: f 101 :: f 102 :: f 103 :: f 104 :: f 105 :: f 106 :: f 107 :: f 108 :: f 109 :: f 110 :: f 111 :: f 112 :: f 113 :: f 114 :: f 115 :: f 116 :: f 117 :: f 118 :: f 119 :: f 120 :: f 121 :: f 122 :: f 123 :: f 124 :: f 125 :: f 126 :: f 127 :: f 128 :: f 129 :: f 130 :: f 131 :: f 132 :: f 133 :: f 134 :: f 135 :: f 136 :: f 137 :: f 138 :: f 139 :: f 140 :: f 141 :: f 142 :: f 143 :: f 144 :: f 145 :: f 146 :: f 147 :: f 148 :: f 149 :: f 150 :: f 151 :: f 152 :: f 153 :: f 154 :: f 155 :: f 156 :: f 157 :: f 158 :: f 159 :: f 160 :: f 161 :: f 162 :: f 163 :: f 164 :: f 165 :: f 166 :: f 167 :: f 168 :: f 169 :: f 170 :: f 171 :: f 172 :: f 173 :: f 174 :: f 175 :: f 176 :: f 177 :: f 178 :: f 179 :: f 180 :: f 181 :: f 182 :: f 183 :: f 184 :: f 185 :: f 186 :: f 187 :: f 188 :: f 189 :: f 190 :: f 191 :: f 192 :: f 193 :: f 194 :: f 195 :: f 196 :: f 197 :: f 198 :: f 199 :: f 200 :: f 201 :: f 202 :: f 203 :: f 204 :: f 205 :: f 206 :: f 207 :: f 208 :: f 209 :: f 210 :: f 211 :: f 212 :: f 213 :: f 214 :: f 215 :: f 216 :: f 217 :: f 218 :: f 219 :: f 220 :: f 221 :: f 222 :: f 223 :: f 224 :: f 225 :: f 226 :: f 227 :: f 228 :: f 229 :: f 230 :: f 231 :: f 232 :: f 233 :: f 234 :: f 235 :: f 236 :: f 237 :: f 238 :: f 239 :: f 240 :: f 241 :: f 242 :: f 243 :: []) := rfl
theorem xopen_0_4_6_7_8_9_11_12 {a : Act} {v0 v4 v6 v7 v8 v9 v11 v12 : Value} (h : Has 244 [0, 4, 6, 7, 8, 9, 11, 12] [v0, v4, v6, v7, v8, v9, v11, v12] a) : ∃ u : Nat → Value, a = ⟨(v0 :: u 1 :: u 2 :: u 3 :: v4 :: u 5 :: v6 :: v7 :: v8 :: v9 :: u 10 :: v11 :: v12 :: u 13 :: u 14 :: u 15 :: u 16 :: u 17 :: u 18 :: u 19 :: u 20 :: u 21 :: u 22 :: u 23 :: u 24 :: u 25 :: u 26 :: u 27 :: u 28 :: u 29 :: u 30 :: u 31 :: u 32 :: u 33 :: u 34 :: u 35 :: u 36 :: u 37 :: u 38 :: u 39 :: u 40 :: u 41 :: u 42 :: u 43 :: u 44 :: u 45 :: u 46 :: u 47 :: u 48 :: u 49 :: u 50 :: u 51 :: u 52 :: u 53 :: u 54 :: u 55 :: u 56 :: u 57 :: u 58 :: u 59 :: u 60 :: u 61 :: u 62 :: u 63 :: u 64 :: u 65 :: u 66 :: u 67 :: u 68 :: u 69 :: u 70 :: u 71 :: u 72 :: u 73 :: u 74 :: u 75 :: u 76 :: u 77 :: u 78 :: u 79 :: u 80 :: u 81 :: u 82 :: u 83 :: u 84 :: u 85 :: u 86 :: u 87 :: u 88 :: u 89 :: u 90 :: u 91 :: u 92 :: u 93 :: u 94 :: u 95 :: u 96 :: u 97 :: u 98 :: u 99 :: u 100 :: u 101 :: u 102 :: u 103 :: u 104 :: u 105 :: u 106 :: u 107 :: u 108 :: u 109 :: u 110 :: u 111 :: u 112 :: u 113 :: u 114 :: u 115 :: u 116 :: u 117 :: u 118 :: u 119 :: u 120 :: u 121 :: u 122 :: u 123 :: u 124 :: u 125 :: u 126 :: u 127 :: u 128 :: u 129 :: u 130 :: u 131 :: u 132 :: u 133 :: u 134 :: u 135 :: u 136 :: u 137 :: u 138 :: u 139 :: u 140 :: u 141 :: u 142 :: u 143 :: u 144 :: u 145 :: u 146 :: u 147 :: u 148 :: u 149 :: u 150 :: u 151 :: u 152 :: u 153 :: u 154 :: u 155 :: u 156 :: u 157 :: u 158 :: u 159 :: u 160 :: u 161 :: u 162 :: u 163 :: u 164 :: u 165 :: u 166 :: u 167 :: u 168 :: u 169 :: u 170 :: u 171 :: u 172 :: u 173 :: u 174 :: u 175 :: u 176 :: u 177 :: u 178 :: u 179 :: u 180 :: u 181 :: u 182 :: u 183 :: u 184 :: u 185 :: u 186 :: u 187 :: u 188 :: u 189 :: u 190 :: u 191 :: u 192 :: u 193 :: u 194 :: u 195 :: u 196 :: u 197 :: u 198 :: u 199 :: u 200 :: u 201 :: u 202 :: u 203 :: u 204 :: u 205 :: u 206 :: u 207 :: u 208 :: u 209 :: u 210 :: u 211 :: u 212 :: u 213 :: u 214 :: u 215 :: u 216 :: u 217 :: u 218 :: u 219 :: u 220 :: u 221 :: u 222 :: u 223 :: u 224 :: u 225 :: u 226 :: u 227 :: u 228 :: u 229 :: u 230 :: u 231 :: u 232 :: u 233 :: u 234 :: u 235 :: u 236 :: u 237 :: u 238 :: u 239 :: u 240 :: u 241 :: u 242 :: u 243 :: []).toArray, []⟩ := by
  obtain ⟨⟨l⟩, d⟩ := a
  obtain ⟨hs, hd, hl⟩ := h
  have hs' : l.length = 244 := hs
  have hd' : d = [] := hd
  subst hd'
  simp only [at_, List.map_cons, List.map_nil, List.cons.injEq, and_true] at hl
  obtain ⟨e0, e4, e6, e7, e8, e9, e11, e12⟩ := hl
  refine ⟨sl ⟨⟨l⟩, []⟩, ?_⟩
  have key := open_list l [] 244 hs'
  rw [range244] at key
  have u0 : sl ⟨⟨l⟩, []⟩ 0 = v0 := by unfold sl; rw [e0]; rfl
  have u4 : sl ⟨⟨l⟩, []⟩ 4 = v4 := by unfold sl; rw [e4]; rfl
  have u6 : sl ⟨⟨l⟩, []⟩ 6 = v6 := by unfold sl; rw [e6]; rfl
  have u7 : sl ⟨⟨l⟩, []⟩ 7 = v7 := by unfold sl; rw [e7]; rfl
  have u8 : sl ⟨⟨l⟩, []⟩ 8 = v8 := by unfold sl; rw [e8]; rfl
  have u9 : sl ⟨⟨l⟩, []⟩ 9 = v9 := by unfold sl; rw [e9]; rfl
  have u11 : sl ⟨⟨l⟩, []⟩ 11 = v11 := by unfold sl; rw [e11]; rfl
  have u12 : sl ⟨⟨l⟩, []⟩ 12 = v12 := by unfold sl; rw [e12]; rfl
  have k2 : l = (v0 :: sl ⟨⟨l⟩, []⟩ 1 :: sl ⟨⟨l⟩, []⟩ 2 :: sl ⟨⟨l⟩, []⟩ 3 :: v4 :: sl ⟨⟨l⟩, []⟩ 5 :: v6 :: v7 :: v8 :: v9 :: sl ⟨⟨l⟩, []⟩ 10 :: v11 :: v12 :: sl ⟨⟨l⟩, []⟩ 13 :: sl ⟨⟨l⟩, []⟩ 14 :: sl ⟨⟨l⟩, []⟩ 15 :: sl ⟨⟨l⟩, []⟩ 16 :: sl ⟨⟨l⟩, []⟩ 17 :: sl ⟨⟨l⟩, []⟩ 18 :: sl ⟨⟨l⟩, []⟩ 19 :: sl ⟨⟨l⟩, []⟩ 20 :: sl ⟨⟨l⟩, []⟩ 21 :: sl ⟨⟨l⟩, []⟩ 22 :: sl ⟨⟨l⟩, []⟩ 23 :: sl ⟨⟨l⟩, []⟩ 24 :: sl ⟨⟨l⟩, []⟩ 25 :: sl ⟨⟨l⟩, []⟩ 26 :: sl ⟨⟨l⟩, []⟩ 27 :: sl ⟨⟨l⟩, []⟩ 28 :: sl ⟨⟨l⟩, []⟩ 29 :: sl ⟨⟨l⟩, []⟩ 30 :: sl ⟨⟨l⟩, []⟩ 31 :: sl ⟨⟨l⟩, []⟩ 32 :: sl ⟨⟨l⟩, []⟩ 33 :: sl ⟨⟨l⟩, []⟩ 34 :: sl ⟨⟨l⟩, []⟩ 35 :: sl ⟨⟨l⟩, []⟩ 36 :: sl ⟨⟨l⟩, []⟩ 37 :: sl ⟨⟨l⟩, []⟩ 38 :: sl ⟨⟨l⟩, []⟩ 39 :: sl ⟨⟨l⟩, []⟩ 40 :: sl ⟨⟨l⟩, []⟩ 41 :: sl ⟨⟨l⟩, []⟩ 42 :: sl ⟨⟨l⟩, []⟩ 43 :: sl ⟨⟨l⟩, []⟩ 44 :: sl ⟨⟨l⟩, []⟩ 45 :: sl ⟨⟨l⟩, []⟩ 46 :: sl ⟨⟨l⟩, []⟩ 47 :: sl ⟨⟨l⟩, []⟩ 48 :: sl ⟨⟨l⟩, []⟩ 49 :: sl ⟨⟨l⟩, []⟩ 50 :: sl ⟨⟨l⟩, []⟩ 51 :: sl ⟨⟨l⟩, []⟩ 52 :: sl ⟨⟨l⟩, []⟩ 53 :: sl ⟨⟨l⟩, []⟩ 54 :: sl ⟨⟨l⟩, []⟩ 55 :: sl ⟨⟨l⟩, []⟩ 56 :: sl ⟨⟨l⟩, []⟩ 57 :: sl ⟨⟨l⟩, []⟩ 58 :: sl ⟨⟨l⟩, []⟩ 59 :: sl ⟨⟨l⟩, []⟩ 60 :: sl ⟨⟨l⟩, []⟩ 61 :: sl ⟨⟨l⟩, []⟩ 62 :: sl ⟨⟨l⟩, []⟩ 63 :: sl ⟨⟨l⟩, []⟩ 64 :: sl ⟨⟨l⟩, []⟩ 65 :: sl ⟨⟨l⟩, []⟩ 66 :: sl ⟨⟨l⟩, []⟩ 67 :: sl ⟨⟨l⟩, []⟩ 68 :: sl ⟨⟨l⟩, []⟩ 69 :: sl ⟨⟨l⟩, []⟩ 70 :: sl ⟨⟨l⟩, []⟩ 71 :: sl ⟨⟨l⟩, []⟩ 72 :: sl ⟨⟨l⟩, []⟩ 73 :: sl ⟨⟨l⟩, []⟩ 74 :: sl ⟨⟨l⟩, []⟩ 75 :: sl ⟨⟨l⟩, []⟩ 76 :: sl ⟨⟨l⟩, []⟩ 77 :: sl ⟨⟨l⟩, []⟩ 78 :: sl ⟨⟨l⟩, []⟩ 79 :: sl ⟨⟨l⟩, []⟩ 80 :: sl ⟨⟨l⟩, []⟩ 81 :: sl ⟨⟨l⟩, []⟩ 82 :: sl ⟨⟨l⟩, []⟩ 83 :: sl ⟨⟨l⟩, []⟩ 84 :: sl ⟨⟨l⟩, []⟩ 85 :: sl ⟨⟨l⟩, []⟩ 86 :: sl ⟨⟨l⟩, []⟩ 87 :: sl ⟨⟨l⟩, []⟩ 88 :: sl ⟨⟨l⟩, []⟩ 89 :: sl ⟨⟨l⟩, []⟩ 90 :: sl ⟨⟨l⟩, []⟩ 91 :: sl ⟨⟨l⟩, []⟩ 92 :: sl ⟨⟨l⟩, []⟩ 93 :: sl ⟨⟨l⟩, []⟩ 94 :: sl ⟨⟨l⟩, []⟩ 95 :: sl ⟨⟨l⟩, []⟩ 96 :: sl ⟨⟨l⟩, []⟩ 97 :: sl ⟨⟨l⟩, []⟩ 98 :: sl ⟨⟨l⟩, []⟩ 99 :: sl ⟨⟨l⟩, []⟩ 100 :: sl ⟨⟨l⟩, []⟩ 101 :: sl ⟨⟨l⟩, []⟩ 102 :: sl ⟨⟨l⟩, []⟩ 103 :: sl ⟨⟨l⟩, []⟩ 104 :: sl ⟨⟨l⟩, []⟩ 105 :: sl ⟨⟨l⟩, []⟩ 106 :: sl ⟨⟨l⟩, []⟩ 107 :: sl ⟨⟨l⟩, []⟩ 108 :: sl ⟨⟨l⟩, []⟩ 109 :: sl ⟨⟨l⟩, []⟩ 110 :: sl ⟨⟨l⟩, []⟩ 111 :: sl ⟨⟨l⟩, []⟩ 112 :: sl ⟨⟨l⟩, []⟩ 113 :: sl ⟨⟨l⟩, []⟩ 114 :: sl ⟨⟨l⟩, []⟩ 115 :: sl ⟨⟨l⟩, []⟩ 116 :: sl ⟨⟨l⟩, []⟩ 117 :: sl ⟨⟨l⟩, []⟩ 118 :: sl ⟨⟨l⟩, []⟩ 119 :: sl ⟨⟨l⟩, []⟩ 120 :: sl ⟨⟨l⟩, []⟩ 121 :: sl ⟨⟨l⟩, []⟩ 122 :: sl ⟨⟨l⟩, []⟩ 123 :: sl ⟨⟨l⟩, []⟩ 124 :: sl ⟨⟨l⟩, []⟩ 125 :: sl ⟨⟨l⟩, []⟩ 126 :: sl ⟨⟨l⟩, []⟩ 127 :: sl ⟨⟨l⟩, []⟩ 128 :: sl ⟨⟨l⟩, []⟩ 129 :: sl ⟨⟨l⟩, []⟩ 130 :: sl ⟨⟨l⟩, []⟩ 131 :: sl ⟨⟨l⟩, []⟩ 132 :: sl ⟨⟨l⟩, []⟩ 133 :: sl ⟨⟨l⟩, []⟩ 134 :: sl ⟨⟨l⟩, []⟩ 135 :: sl ⟨⟨l⟩, []⟩ 136 :: sl ⟨⟨l⟩, []⟩ 137 :: sl ⟨⟨l⟩, []⟩ 138 :: sl ⟨⟨l⟩, []⟩ 139 :: sl ⟨⟨l⟩, []⟩ 140 :: sl ⟨⟨l⟩, []⟩ 141 :: sl ⟨⟨l⟩, []⟩ 142 :: sl ⟨⟨l⟩, []⟩ 143 :: sl ⟨⟨l⟩, []⟩ 144 :: sl ⟨⟨l⟩, []⟩ 145 :: sl ⟨⟨l⟩, []⟩ 146 :: sl ⟨⟨l⟩, []⟩ 147 :: sl ⟨⟨l⟩, []⟩ 148 :: sl ⟨⟨l⟩, []⟩ 149 :: sl ⟨⟨l⟩, []⟩ 150 :: sl ⟨⟨l⟩, []⟩ 151 :: sl ⟨⟨l⟩, []⟩ 152 :: sl ⟨⟨l⟩, []⟩ 153 :: sl ⟨⟨l⟩, []⟩ 154 :: sl ⟨⟨l⟩, []⟩ 155 :: sl ⟨⟨l⟩, []⟩ 156 :: sl ⟨⟨l⟩, []⟩ 157 :: sl ⟨⟨l⟩, []⟩ 158 :: sl ⟨⟨l⟩, []⟩ 159 :: sl ⟨⟨l⟩, []⟩ 160 :: sl ⟨⟨l⟩, []⟩ 161 :: sl ⟨⟨l⟩, []⟩ 162 :: sl ⟨⟨l⟩, []⟩ 163 :: sl ⟨⟨l⟩, []⟩ 164 :: sl ⟨⟨l⟩, []⟩ 165 :: sl ⟨⟨l⟩, []⟩ 166 :: sl ⟨⟨l⟩, []⟩ 167 :: sl ⟨⟨l⟩, []⟩ 168 :: sl ⟨⟨l⟩, []⟩ 169 :: sl ⟨⟨l⟩, []⟩ 170 :: sl ⟨⟨l⟩, []⟩ 171 :: sl ⟨⟨l⟩, []⟩ 172 :: sl ⟨⟨l⟩, []⟩ 173 :: sl ⟨⟨l⟩, []⟩ 174 :: sl ⟨⟨l⟩, []⟩ 175 :: sl ⟨⟨l⟩, []⟩ 176 :: sl ⟨⟨l⟩, []⟩ 177 :: sl ⟨⟨l⟩, []⟩ 178 :: sl ⟨⟨l⟩, []⟩ 179 :: sl ⟨⟨l⟩, []⟩ 180 :: sl ⟨⟨l⟩, []⟩ 181 :: sl ⟨⟨l⟩, []⟩ 182 :: sl ⟨⟨l⟩, []⟩ 183 :: sl ⟨⟨l⟩, []⟩ 184 :: sl ⟨⟨l⟩, []⟩ 185 :: sl ⟨⟨l⟩, []⟩ 186 :: sl ⟨⟨l⟩, []⟩ 187 :: sl ⟨⟨l⟩, []⟩ 188 :: sl ⟨⟨l⟩, []⟩ 189 :: sl ⟨⟨l⟩, []⟩ 190 :: sl ⟨⟨l⟩, []⟩ 191 :: sl ⟨⟨l⟩, []⟩ 192 :: sl ⟨⟨l⟩, []⟩ 193 :: sl ⟨⟨l⟩, []⟩ 194 :: sl ⟨⟨l⟩, []⟩ 195 :: sl ⟨⟨l⟩, []⟩ 196 :: sl ⟨⟨l⟩, []⟩ 197 :: sl ⟨⟨l⟩, []⟩ 198 :: sl ⟨⟨l⟩, []⟩ 199 :: sl ⟨⟨l⟩, []⟩ 200 :: sl ⟨⟨l⟩, []⟩ 201 :: sl ⟨⟨l⟩, []⟩ 202 :: sl ⟨⟨l⟩, []⟩ 203 :: sl ⟨⟨l⟩, []⟩ 204 :: sl ⟨⟨l⟩, []⟩ 205 :: sl ⟨⟨l⟩, []⟩ 206 :: sl ⟨⟨l⟩, []⟩ 207 :: sl ⟨⟨l⟩, []⟩ 208 :: sl ⟨⟨l⟩, []⟩ 209 :: sl ⟨⟨l⟩, []⟩ 210 :: sl ⟨⟨l⟩, []⟩ 211 :: sl ⟨⟨l⟩, []⟩ 212 :: sl ⟨⟨l⟩, []⟩ 213 :: sl ⟨⟨l⟩, []⟩ 214 :: sl ⟨⟨l⟩, []⟩ 215 :: sl ⟨⟨l⟩, []⟩ 216 :: sl ⟨⟨l⟩, []⟩ 217 :: sl ⟨⟨l⟩, []⟩ 218 :: sl ⟨⟨l⟩, []⟩ 219 :: sl ⟨⟨l⟩, []⟩ 220 :: sl ⟨⟨l⟩, []⟩ 221 :: sl ⟨⟨l⟩, []⟩ 222 :: sl ⟨⟨l⟩, []⟩ 223 :: sl ⟨⟨l⟩, []⟩ 224 :: sl ⟨⟨l⟩, []⟩ 225 :: sl ⟨⟨l⟩, []⟩ 226 :: sl ⟨⟨l⟩, []⟩ 227 :: sl ⟨⟨l⟩, []⟩ 228 :: sl ⟨⟨l⟩, []⟩ 229 :: sl ⟨⟨l⟩, []⟩ 230 :: sl ⟨⟨l⟩, []⟩ 231 :: sl ⟨⟨l⟩, []⟩ 232 :: sl ⟨⟨l⟩, []⟩ 233 :: sl ⟨⟨l⟩, []⟩ 234 :: sl ⟨⟨l⟩, []⟩ 235 :: sl ⟨⟨l⟩, []⟩ 236 :: sl ⟨⟨l⟩, []⟩ 237 :: sl ⟨⟨l⟩, []⟩ 238 :: sl ⟨⟨l⟩, []⟩ 239 :: sl ⟨⟨l⟩, []⟩ 240 :: sl ⟨⟨l⟩, []⟩ 241 :: sl ⟨⟨l⟩, []⟩ 242 :: sl ⟨⟨l⟩, []⟩ 243 :: []) := by
    rw [← u0, ← u4, ← u6, ← u7, ← u8, ← u9, ← u11, ← u12]
    exact key
  exact congrArg (fun x => (⟨⟨x⟩, []⟩ : Act)) k2
theorem xopen_0_3_4_6_7_8_9_10_11_12 {a : Act} {v0 v3 v4 v6 v7 v8 v9 v10 v11 v12 : Value} (h : Has 244 [0, 3, 4, 6, 7, 8, 9, 10, 11, 12] [v0, v3, v4, v6, v7, v8, v9, v10, v11, v12] a) : ∃ u : Nat → Value, a = ⟨(v0 :: u 1 :: u 2 :: v3 :: v4 :: u 5 :: v6 :: v7 :: v8 :: v9 :: v10 :: v11 :: v12 :: u 13 :: u 14 :: u 15 :: u 16 :: u 17 :: u 18 :: u 19 :: u 20 :: u 21 :: u 22 :: u 23 :: u 24 :: u 25 :: u 26 :: u 27 :: u 28 :: u 29 :: u 30 :: u 31 :: u 32 :: u 33 :: u 34 :: u 35 :: u 36 :: u 37 :: u 38 :: u 39 :: u 40 :: u 41 :: u 42 :: u 43 :: u 44 :: u 45 :: u 46 :: u 47 :: u 48 :: u 49 :: u 50 :: u 51 :: u 52 :: u 53 :: u 54 :: u 55 :: u 56 :: u 57 :: u 58 :: u 59 :: u 60 :: u 61 :: u 62 :: u 63 :: u 64 :: u 65 :: u 66 :: u 67 :: u 68 :: u 69 :: u 70 :: u 71 :: u 72 :: u 73 :: u 74 :: u 75 :: u 76 :: u 77 :: u 78 :: u 79 :: u 80 :: u 81 :: u 82 :: u 83 :: u 84 :: u 85 :: u 86 :: u 87 :: u 88 :: u 89 :: u 90 :: u 91 :: u 92 :: u 93 :: u 94 :: u 95 :: u 96 :: u 97 :: u 98 :: u 99 :: u 100 :: u 101 :: u 102 :: u 103 :: u 104 :: u 105 :: u 106 :: u 107 :: u 108 :: u 109 :: u 110 :: u 111 :: u 112 :: u 113 :: u 114 :: u 115 :: u 116 :: u 117 :: u 118 :: u 119 :: u 120 :: u 121 :: u 122 :: u 123 :: u 124 :: u 125 :: u 126 :: u 127 :: u 128 :: u 129 :: u 130 :: u 131 :: u 132 :: u 133 :: u 134 :: u 135 :: u 136 :: u 137 :: u 138 :: u 139 :: u 140 :: u 141 :: u 142 :: u 143 :: u 144 :: u 145 :: u 146 :: u 147 :: u 148 :: u 149 :: u 150 :: u 151 :: u 152 :: u 153 :: u 154 :: u 155 :: u 156 :: u 157 :: u 158 :: u 159 :: u 160 :: u 161 :: u 162 :: u 163 :: u 164 :: u 165 :: u 166 :: u 167 :: u 168 :: u 169 :: u 170 :: u 171 :: u 172 :: u 173 :: u 174 :: u 175 :: u 176 :: u 177 :: u 178 :: u 179 :: u 180 :: u 181 :: u 182 :: u 183 :: u 184 :: u 185 :: u 186 :: u 187 :: u 188 :: u 189 :: u 190 :: u 191 :: u 192 :: u 193 :: u 194 :: u 195 :: u 196 :: u 197 :: u 198 :: u 199 :: u 200 :: u 201 :: u 202 :: u 203 :: u 204 :: u 205 :: u 206 :: u 207 :: u 208 :: u 209 :: u 210 :: u 211 :: u 212 :: u 213 :: u 214 :: u 215 :: u 216 :: u 217 :: u 218 :: u 219 :: u 220 :: u 221 :: u 222 :: u 223 :: u 224 :: u 225 :: u 226 :: u 227 :: u 228 :: u 229 :: u 230 :: u 231 :: u 232 :: u 233 :: u 234 :: u 235 :: u 236 :: u 237 :: u 238 :: u 239 :: u 240 :: u 241 :: u 242 :: u 243 :: []).toArray, []⟩ := by
  obtain ⟨⟨l⟩, d⟩ := a
  obtain ⟨hs, hd, hl⟩ := h
  have hs' : l.length = 244 := hs
  have hd' : d = [] := hd
  subst hd'
  simp only [at_, List.map_cons, List.map_nil, List.cons.injEq, and_true] at hl
  obtain ⟨e0, e3, e4, e6, e7, e8, e9, e10, e11, e12⟩ := hl
  refine ⟨sl ⟨⟨l⟩, []⟩, ?_⟩
  have key := open_list l [] 244 hs'
  rw [range244] at key
  have u0 : sl ⟨⟨l⟩, []⟩ 0 = v0 := by unfold sl; rw [e0]; rfl
  have u3 : sl ⟨⟨l⟩, []⟩ 3 = v3 := by unfold sl; rw [e3]; rfl
  have u4 : sl ⟨⟨l⟩, []⟩ 4 = v4 := by unfold sl; rw [e4]; rfl
  have u6 : sl ⟨⟨l⟩, []⟩ 6 = v6 := by unfold sl; rw [e6]; rfl
  have u7 : sl ⟨⟨l⟩, []⟩ 7 = v7 := by unfold sl; rw [e7]; rfl
  have u8 : sl ⟨⟨l⟩, []⟩ 8 = v8 := by unfold sl; rw [e8]; rfl
  have u9 : sl ⟨⟨l⟩, []⟩ 9 = v9 := by unfold sl; rw [e9]; rfl
  have u10 : sl ⟨⟨l⟩, []⟩ 10 = v10 := by unfold sl; rw [e10]; rfl
  have u11 : sl ⟨⟨l⟩, []⟩ 11 = v11 := by unfold sl; rw [e11]; rfl
  have u12 : sl ⟨⟨l⟩, []⟩ 12 = v12 := by unfold sl; rw [e12]; rfl
  have k2 : l = (v0 :: sl ⟨⟨l⟩, []⟩ 1 :: sl ⟨⟨l⟩, []⟩ 2 :: v3 :: v4 :: sl ⟨⟨l⟩, []⟩ 5 :: v6 :: v7 :: v8 :: v9 :: v10 :: v11 :: v12 :: sl ⟨⟨l⟩, []⟩ 13 :: sl ⟨⟨l⟩, []⟩ 14 :: sl ⟨⟨l⟩, []⟩ 15 :: sl ⟨⟨l⟩, []⟩ 16 :: sl ⟨⟨l⟩, []⟩ 17 :: sl ⟨⟨l⟩, []⟩ 18 :: sl ⟨⟨l⟩, []⟩ 19 :: sl ⟨⟨l⟩, []⟩ 20 :: sl ⟨⟨l⟩, []⟩ 21 :: sl ⟨⟨l⟩, []⟩ 22 :: sl ⟨⟨l⟩, []⟩ 23 :: sl ⟨⟨l⟩, []⟩ 24 :: sl ⟨⟨l⟩, []⟩ 25 :: sl ⟨⟨l⟩, []⟩ 26 :: sl ⟨⟨l⟩, []⟩ 27 :: sl ⟨⟨l⟩, []⟩ 28 :: sl ⟨⟨l⟩, []⟩ 29 :: sl ⟨⟨l⟩, []⟩ 30 :: sl ⟨⟨l⟩, []⟩ 31 :: sl ⟨⟨l⟩, []⟩ 32 :: sl ⟨⟨l⟩, []⟩ 33 :: sl ⟨⟨l⟩, []⟩ 34 :: sl ⟨⟨l⟩, []⟩ 35 :: sl ⟨⟨l⟩, []⟩ 36 :: sl ⟨⟨l⟩, []⟩ 37 :: sl ⟨⟨l⟩, []⟩ 38 :: sl ⟨⟨l⟩, []⟩ 39 :: sl ⟨⟨l⟩, []⟩ 40 :: sl ⟨⟨l⟩, []⟩ 41 :: sl ⟨⟨l⟩, []⟩ 42 :: sl ⟨⟨l⟩, []⟩ 43 :: sl ⟨⟨l⟩, []⟩ 44 :: sl ⟨⟨l⟩, []⟩ 45 :: sl ⟨⟨l⟩, []⟩ 46 :: sl ⟨⟨l⟩, []⟩ 47 :: sl ⟨⟨l⟩, []⟩ 48 :: sl ⟨⟨l⟩, []⟩ 49 :: sl ⟨⟨l⟩, []⟩ 50 :: sl ⟨⟨l⟩, []⟩ 51 :: sl ⟨⟨l⟩, []⟩ 52 :: sl ⟨⟨l⟩, []⟩ 53 :: sl ⟨⟨l⟩, []⟩ 54 :: sl ⟨⟨l⟩, []⟩ 55 :: sl ⟨⟨l⟩, []⟩ 56 :: sl ⟨⟨l⟩, []⟩ 57 :: sl ⟨⟨l⟩, []⟩ 58 :: sl ⟨⟨l⟩, []⟩ 59 :: sl ⟨⟨l⟩, []⟩ 60 :: sl ⟨⟨l⟩, []⟩ 61 :: sl ⟨⟨l⟩, []⟩ 62 :: sl ⟨⟨l⟩, []⟩ 63 :: sl ⟨⟨l⟩, []⟩ 64 :: sl ⟨⟨l⟩, []⟩ 65 :: sl ⟨⟨l⟩, []⟩ 66 :: sl ⟨⟨l⟩, []⟩ 67 :: sl ⟨⟨l⟩, []⟩ 68 :: sl ⟨⟨l⟩, []⟩ 69 :: sl ⟨⟨l⟩, []⟩ 70 :: sl ⟨⟨l⟩, []⟩ 71 :: sl ⟨⟨l⟩, []⟩ 72 :: sl ⟨⟨l⟩, []⟩ 73 :: sl ⟨⟨l⟩, []⟩ 74 :: sl ⟨⟨l⟩, []⟩ 75 :: sl ⟨⟨l⟩, []⟩ 76 :: sl ⟨⟨l⟩, []⟩ 77 :: sl ⟨⟨l⟩, []⟩ 78 :: sl ⟨⟨l⟩, []⟩ 79 :: sl ⟨⟨l⟩, []⟩ 80 :: sl ⟨⟨l⟩, []⟩ 81 :: sl ⟨⟨l⟩, []⟩ 82 :: sl ⟨⟨l⟩, []⟩ 83 :: sl ⟨⟨l⟩, []⟩ 84 :: sl ⟨⟨l⟩, []⟩ 85 :: sl ⟨⟨l⟩, []⟩ 86 :: sl ⟨⟨l⟩, []⟩ 87 :: sl ⟨⟨l⟩, []⟩ 88 :: sl ⟨⟨l⟩, []⟩ 89 :: sl ⟨⟨l⟩, []⟩ 90 :: sl ⟨⟨l⟩, []⟩ 91 :: sl ⟨⟨l⟩, []⟩ 92 :: sl ⟨⟨l⟩, []⟩ 93 :: sl ⟨⟨l⟩, []⟩ 94 :: sl ⟨⟨l⟩, []⟩ 95 :: sl ⟨⟨l⟩, []⟩ 96 :: sl ⟨⟨l⟩, []⟩ 97 :: sl ⟨⟨l⟩, []⟩ 98 :: sl ⟨⟨l⟩, []⟩ 99 :: sl ⟨⟨l⟩, []⟩ 100 :: sl ⟨⟨l⟩, []⟩ 101 :: sl ⟨⟨l⟩, []⟩ 102 :: sl ⟨⟨l⟩, []⟩ 103 :: sl ⟨⟨l⟩, []⟩ 104 :: sl ⟨⟨l⟩, []⟩ 105 :: sl ⟨⟨l⟩, []⟩ 106 :: sl ⟨⟨l⟩, []⟩ 107 :: sl ⟨⟨l⟩, []⟩ 108 :: sl ⟨⟨l⟩, []⟩ 109 :: sl ⟨⟨l⟩, []⟩ 110 :: sl ⟨⟨l⟩, []⟩ 111 :: sl ⟨⟨l⟩, []⟩ 112 :: sl ⟨⟨l⟩, []⟩ 113 :: sl ⟨⟨l⟩, []⟩ 114 :: sl ⟨⟨l⟩, []⟩ 115 :: sl ⟨⟨l⟩, []⟩ 116 :: sl ⟨⟨l⟩, []⟩ 117 :: sl ⟨⟨l⟩, []⟩ 118 :: sl ⟨⟨l⟩, []⟩ 119 :: sl ⟨⟨l⟩, []⟩ 120 :: sl ⟨⟨l⟩, []⟩ 121 :: sl ⟨⟨l⟩, []⟩ 122 :: sl ⟨⟨l⟩, []⟩ 123 :: sl ⟨⟨l⟩, []⟩ 124 :: sl ⟨⟨l⟩, []⟩ 125 :: sl ⟨⟨l⟩, []⟩ 126 :: sl ⟨⟨l⟩, []⟩ 127 :: sl ⟨⟨l⟩, []⟩ 128 :: sl ⟨⟨l⟩, []⟩ 129 :: sl ⟨⟨l⟩, []⟩ 130 :: sl ⟨⟨l⟩, []⟩ 131 :: sl ⟨⟨l⟩, []⟩ 132 :: sl ⟨⟨l⟩, []⟩ 133 :: sl ⟨⟨l⟩, []⟩ 134 :: sl ⟨⟨l⟩, []⟩ 135 :: sl ⟨⟨l⟩, []⟩ 136 :: sl ⟨⟨l⟩, []⟩ 137 :: sl ⟨⟨l⟩, []⟩ 138 :: sl ⟨⟨l⟩, []⟩ 139 :: sl ⟨⟨l⟩, []⟩ 140 :: sl ⟨⟨l⟩, []⟩ 141 :: sl ⟨⟨l⟩, []⟩ 142 :: sl ⟨⟨l⟩, []⟩ 143 :: sl ⟨⟨l⟩, []⟩ 144 :: sl ⟨⟨l⟩, []⟩ 145 :: sl ⟨⟨l⟩, []⟩ 146 :: sl ⟨⟨l⟩, []⟩ 147 :: sl ⟨⟨l⟩, []⟩ 148 :: sl ⟨⟨l⟩, []⟩ 149 :: sl ⟨⟨l⟩, []⟩ 150 :: sl ⟨⟨l⟩, []⟩ 151 :: sl ⟨⟨l⟩, []⟩ 152 :: sl ⟨⟨l⟩, []⟩ 153 :: sl ⟨⟨l⟩, []⟩ 154 :: sl ⟨⟨l⟩, []⟩ 155 :: sl ⟨⟨l⟩, []⟩ 156 :: sl ⟨⟨l⟩, []⟩ 157 :: sl ⟨⟨l⟩, []⟩ 158 :: sl ⟨⟨l⟩, []⟩ 159 :: sl ⟨⟨l⟩, []⟩ 160 :: sl ⟨⟨l⟩, []⟩ 161 :: sl ⟨⟨l⟩, []⟩ 162 :: sl ⟨⟨l⟩, []⟩ 163 :: sl ⟨⟨l⟩, []⟩ 164 :: sl ⟨⟨l⟩, []⟩ 165 :: sl ⟨⟨l⟩, []⟩ 166 :: sl ⟨⟨l⟩, []⟩ 167 :: sl ⟨⟨l⟩, []⟩ 168 :: sl ⟨⟨l⟩, []⟩ 169 :: sl ⟨⟨l⟩, []⟩ 170 :: sl ⟨⟨l⟩, []⟩ 171 :: sl ⟨⟨l⟩, []⟩ 172 :: sl ⟨⟨l⟩, []⟩ 173 :: sl ⟨⟨l⟩, []⟩ 174 :: sl ⟨⟨l⟩, []⟩ 175 :: sl ⟨⟨l⟩, []⟩ 176 :: sl ⟨⟨l⟩, []⟩ 177 :: sl ⟨⟨l⟩, []⟩ 178 :: sl ⟨⟨l⟩, []⟩ 179 :: sl ⟨⟨l⟩, []⟩ 180 :: sl ⟨⟨l⟩, []⟩ 181 :: sl ⟨⟨l⟩, []⟩ 182 :: sl ⟨⟨l⟩, []⟩ 183 :: sl ⟨⟨l⟩, []⟩ 184 :: sl ⟨⟨l⟩, []⟩ 185 :: sl ⟨⟨l⟩, []⟩ 186 :: sl ⟨⟨l⟩, []⟩ 187 :: sl ⟨⟨l⟩, []⟩ 188 :: sl ⟨⟨l⟩, []⟩ 189 :: sl ⟨⟨l⟩, []⟩ 190 :: sl ⟨⟨l⟩, []⟩ 191 :: sl ⟨⟨l⟩, []⟩ 192 :: sl ⟨⟨l⟩, []⟩ 193 :: sl ⟨⟨l⟩, []⟩ 194 :: sl ⟨⟨l⟩, []⟩ 195 :: sl ⟨⟨l⟩, []⟩ 196 :: sl ⟨⟨l⟩, []⟩ 197 :: sl ⟨⟨l⟩, []⟩ 198 :: sl ⟨⟨l⟩, []⟩ 199 :: sl ⟨⟨l⟩, []⟩ 200 :: sl ⟨⟨l⟩, []⟩ 201 :: sl ⟨⟨l⟩, []⟩ 202 :: sl ⟨⟨l⟩, []⟩ 203 :: sl ⟨⟨l⟩, []⟩ 204 :: sl ⟨⟨l⟩, []⟩ 205 :: sl ⟨⟨l⟩, []⟩ 206 :: sl ⟨⟨l⟩, []⟩ 207 :: sl ⟨⟨l⟩, []⟩ 208 :: sl ⟨⟨l⟩, []⟩ 209 :: sl ⟨⟨l⟩, []⟩ 210 :: sl ⟨⟨l⟩, []⟩ 211 :: sl ⟨⟨l⟩, []⟩ 212 :: sl ⟨⟨l⟩, []⟩ 213 :: sl ⟨⟨l⟩, []⟩ 214 :: sl ⟨⟨l⟩, []⟩ 215 :: sl ⟨⟨l⟩, []⟩ 216 :: sl ⟨⟨l⟩, []⟩ 217 :: sl ⟨⟨l⟩, []⟩ 218 :: sl ⟨⟨l⟩, []⟩ 219 :: sl ⟨⟨l⟩, []⟩ 220 :: sl ⟨⟨l⟩, []⟩ 221 :: sl ⟨⟨l⟩, []⟩ 222 :: sl ⟨⟨l⟩, []⟩ 223 :: sl ⟨⟨l⟩, []⟩ 224 :: sl ⟨⟨l⟩, []⟩ 225 :: sl ⟨⟨l⟩, []⟩ 226 :: sl ⟨⟨l⟩, []⟩ 227 :: sl ⟨⟨l⟩, []⟩ 228 :: sl ⟨⟨l⟩, []⟩ 229 :: sl ⟨⟨l⟩, []⟩ 230 :: sl ⟨⟨l⟩, []⟩ 231 :: sl ⟨⟨l⟩, []⟩ 232 :: sl ⟨⟨l⟩, []⟩ 233 :: sl ⟨⟨l⟩, []⟩ 234 :: sl ⟨⟨l⟩, []⟩ 235 :: sl ⟨⟨l⟩, []⟩ 236 :: sl ⟨⟨l⟩, []⟩ 237 :: sl ⟨⟨l⟩, []⟩ 238 :: sl ⟨⟨l⟩, []⟩ 239 :: sl ⟨⟨l⟩, []⟩ 240 :: sl ⟨⟨l⟩, []⟩ 241 :: sl ⟨⟨l⟩, []⟩ 242 :: sl ⟨⟨l⟩, []⟩ 243 :: []) := by
    rw [← u0, ← u3, ← u4, ← u6, ← u7, ← u8, ← u9, ← u10, ← u11, ← u12]
    exact key
  exact congrArg (fun x => (⟨⟨x⟩, []⟩ : Act)) k2
end Go.Proofs.Ytbjabncefhgefaa
namespace Go.Proofs.Ytbjabncefhgefaa
open Go.ChangeShapes Go.WideShapes Go.ChangeAt Go.RowKit
set_option linter.unusedVariables false
set_option linter.unusedSimpArgs false

set_option maxRecDepth 100000 in
set_option maxHeartbeats 8000000 in
theorem rexp_tail (bs : List Nat) (b0 b1 b2 b4 b5 : Nat) (w wr : World) (fs : List FnV) (F : Option Addr) (fc : Nat) (R : Option (List NmV)) (RR : Option ExpV)
    (HLB : Hid (Lb bs)) (hlen : bs.length ≤ 1000000) (hn : b2 ≤ 256) (HIN : Hid (b2 = 0 ∨ (b4 + 4 * b2 ≤ bs.length ∧ b5 + 2 * b2 ≤ bs.length)))
    (HR : Hid (namesL bs b4 b5 b1 b2 0 [] [] = R)) (HRR : Hid (RR = R.map fun n => (b0, fs, n)))
    (HB : Hid (Below w.heap.size w wr)) (H1 : Hid (wr.heap[w.heap.size + 1]? = some (.cells #[.int .i64 0, .slice none 0 0, .slice none 0 0] 32 (0, 0)))) (H2 : Hid (wr.heap[w.heap.size + 2]? = some (.cells #[.int .i64 0, .slice none 0 0, .slice none 0 0] 32 (0, 0))))
    (H3 : Hid (wr.heap[w.heap.size + 3]? = some (.cells #[.int .i64 b0, .slice F fs.length fc, .slice none 0 0] 32 (0, 0))))
    (HO : Hid (OwnT gC 2 wr (w.heap.size + 4) 37 (.slice F fs.length fc) fs)) (a : Act)
    (ha : Has 244 [0, 4, 6, 7, 8, 9, 11, 12] [.string (txt bs), .pointer (some ⟨w.heap.size + 1, 0, none⟩), .pointer (some ⟨w.heap.size + 2, 0, none⟩), .pointer (some ⟨w.heap.size + 3, 0, none⟩), .int .i64 b1, .int .i64 b2, .int .i64 b4, .int .i64 b5] a) : (dropS 9 bodyX).wp Try.prog (QX w RR) a wr := by
  obtain ⟨u, rfl⟩ := xopen_0_4_6_7_8_9_11_12 ha
  clear ha
  conv => arg 2; whnf
  go_wp2_with fail
  go_loopw [19] (fun v19 wr => ∃ (i k : Nat) (l : List NmV) (last : List Nat) (A' : Option Addr) (c' : Nat), i + k = b2 ∧ l.length = i ∧ Lb last ∧ last.length ≤ 64 ∧ ((i = 0 ∧ last = []) ∨ (1 ≤ i ∧ (l.getD (i - 1) ([], 0)).1 = last)) ∧ v19 = .int .i64 i ∧ OwnT nC 2 wr (w.heap.size + 4) 42 (.slice A' l.length c') l ∧ OwnT gC 2 wr (w.heap.size + 4) 37 (.slice F fs.length fc) fs ∧ (∀ k, (Value.slice A' l.length c').ownBlock = some k → (Value.slice F fs.length fc).ownBlock ≠ some k) ∧ Below w.heap.size w wr ∧ wr.heap[w.heap.size + 1]? = some (.cells #[.int .i64 0, .slice none 0 0, .slice none 0 0] 32 (0, 0)) ∧ wr.heap[w.heap.size + 2]? = some (.cells #[.int .i64 0, .slice none 0 0, .slice none 0 0] 32 (0, 0)) ∧ wr.heap[w.heap.size + 3]? = some (.cells #[.int .i64 b0, .slice F fs.length fc, .slice A' l.length c'] 32 (0, 0)) ∧ namesL bs b4 b5 b1 k i last l = R) (fun v19 _ => b2 - (intOf v19).toNat)
  case atStart => exact ⟨0, b2, [], [], none, 0, by omega, rfl, by intro v hv; simp at hv, by simp, .inl ⟨rfl, rfl⟩, rfl, OwnT.nil _ _ _, HO.out, by intro k hk; simp [Value.ownBlock] at hk, HB.out, H1.out, H2.out, H3.out, HR.out⟩
  case round =>
    obtain ⟨i, k, l, last, A', c', hik, hli, hlb, hl64, hlast, rfl, hown, hownf, hne, hbel, h1, h2, h3, hR⟩ := hrel
    replace HO := Lib.hid hownf
    have HN := Lib.hid hown
    have HNE := Lib.hid hne
    replace HB := Lib.hid hbel
    replace H1 := Lib.hid h1
    replace H2 := Lib.hid h2
    replace H3 := Lib.hid h3
    replace HR := Lib.hid hR
    have HLI := Lib.hid hli
    have HLA := Lib.hid hlb
    have HLS := Lib.hid hlast
    clear hown hownf hne hbel h1 h2 h3 hR hli hlb hlast
    by_cases hlt : i < b2
    · obtain ⟨k, rfl⟩ : ∃ q, k = q + 1 := ⟨k - 1, by omega⟩
      obtain ⟨m4, hm4⟩ : ∃ m, 4 * i = m := ⟨_, rfl⟩
      obtain ⟨m2, hm2⟩ : ∃ m, 2 * i = m := ⟨_, rfl⟩
      obtain ⟨o, ho⟩ : ∃ o, b4 + m4 = o := ⟨_, rfl⟩
      obtain ⟨q, hq⟩ : ∃ q, b5 + m2 = q := ⟨_, rfl⟩
      have hob : o + 4 ≤ bs.length := by have := HIN.out; omega
      have hqb : q + 2 ≤ bs.length := by have := HIN.out; omega
      have em : (4 : Int) * (i : Int) = (m4 : Int) := by omega
      have wm : IntKind.i64.wrap (m4 : Int) = (m4 : Int) := by rw [IntKind.wrap_i64]; omega
      have eo : (b4 : Int) + (m4 : Int) = (o : Int) := by omega
      have wo : IntKind.i64.wrap (o : Int) = (o : Int) := by rw [IntKind.wrap_i64]; omega
      have em2 : (2 : Int) * (i : Int) = (m2 : Int) := by omega
      have wm2 : IntKind.i64.wrap (m2 : Int) = (m2 : Int) := by rw [IntKind.wrap_i64]; omega
      have eq2 : (b5 : Int) + (m2 : Int) = (q : Int) := by omega
      have wq2 : IntKind.i64.wrap (q : Int) = (q : Int) := by rw [IntKind.wrap_i64]; omega
      have HU := Lib.hid (fun W => rint_list bs o 4 W HLB.out (by omega) (by omega) hob)
      have H16 := Lib.hid (fun W => rint_list bs q 2 W HLB.out (by omega) (by omega) hqb)
      have hre := HR.out
      simp only [namesL] at hre
      rw [hm4, ho, hm2, hq] at hre
      obtain ⟨v, hvv⟩ : ∃ v, numL (bs.drop o) 4 = v := ⟨_, rfl⟩
      obtain ⟨ix, hix⟩ : ∃ v, numL (bs.drop q) 2 = v := ⟨_, rfl⟩
      rw [hvv] at HU hre
      rw [hix] at H16 hre
      have HTX := Lib.hid (fun W => rtext_list bs v 64 W HLB.out (by omega))
      have HRE2 := Lib.hid hre
      have hlt6 := (show textL bs v 64 = textL bs v 64 from rfl)
      clear hre hvv hix hm4 hm2 ho hq hob hqb hlt6
      go_wp2_with fail
      refine (HU.out _).mono ?_
      rintro e w' ⟨rfl, rfl⟩
      go_wp2_with fail
      refine (HTX.out _).mono ?_
      rintro e w' ⟨rfl, rfl⟩
      rcases htx : textL bs v 64 with _ | t
      · have hre := HRE2.out
        rw [htx] at hre
        simp only at hre ⊢
        subst hre
        have hrr := HRR.out
        simp only [Option.map_none] at hrr
        subst hrr
        have z0 : wr.cell? ⟨w.heap.size + 2, 0, none⟩ = some (.int .i64 0) := by rw [cell_of_row _ _ _ _ _ _ H2.out]; rfl
        have z1 : wr.cell? ⟨w.heap.size + 2, 1, none⟩ = some (.slice none 0 0) := by rw [cell_of_row _ _ _ _ _ _ H2.out]; rfl
        have z2 : wr.cell? ⟨w.heap.size + 2, 2, none⟩ = some (.slice none 0 0) := by rw [cell_of_row _ _ _ _ _ _ H2.out]; rfl
        obtain ⟨w9, hw9⟩ : ∃ w9, wr.setRow (w.heap.size + 1) #[.int .i64 0, .slice none 0 0, .slice none 0 0] = w9 := ⟨_, rfl⟩
        have HE9 := Lib.hid hw9
        have HR9 := Lib.hid (show w9.heap[w.heap.size + 1]? = some (.cells #[.int .i64 0, .slice none 0 0, .slice none 0 0] 32 (0, 0)) from by rw [← hw9]; exact setRow_heap _ _ _ _ _ _ H1.out)
        have HB9 := Lib.hid (show Below w.heap.size w w9 from by rw [← hw9]; exact below_setRow HB.out (Nat.le_succ _) _)
        have k0 : w9.cell? ⟨w.heap.size + 1, 0, none⟩ = some (.int .i64 0) := by rw [cell_of_row _ _ _ _ _ _ HR9.out]; rfl
        have k1 : w9.cell? ⟨w.heap.size + 1, 1, none⟩ = some (.slice none 0 0) := by rw [cell_of_row _ _ _ _ _ _ HR9.out]; rfl
        have k2 : w9.cell? ⟨w.heap.size + 1, 2, none⟩ = some (.slice none 0 0) := by rw [cell_of_row _ _ _ _ _ _ HR9.out]; rfl
        clear hw9
        go_wp2_with (first | (refine wpList_store_row rfl 32 _ _ rfl (w.heap.size + 1) #[.int .i64 0, .slice none 0 0, .slice none 0 0] rfl rfl 32 #[.int .i64 0, .slice none 0 0, .slice none 0 0] H1.out expInfo rfl expOne2 ?_; refine (congrArg _ HE9.out).mpr ?_) | fail)
        refine bodyPost_ret (v := .tuple #[.agg #[.int .i64 0, .slice none 0 0, .slice none 0 0], .int .i64 11]) (by simp [results, Try.results16, go_sem, k0, k1, k2]) rfl ⟨?_, HB9.out⟩
        exact rfl
      · have hlt' := textL_lb' HLB.out htx
        have hre := HRE2.out
        rw [htx] at hre
        simp only at hre ⊢
        have HSY := Lib.hid (fun W => rsym_list t W hlt'.1 (by have := hlt'.2; omega))
        have hleq := less_txt hlt'.1 HLA.out
        have HLT := Lib.hid hlt'
        clear hlt' htx HRE2 HTX
        by_cases hok : okSymL t = true
        · rw [if_pos hok] at hre
          rw [hok] at HSY
          rcases HLS.out with ⟨hi0, rfl⟩ | ⟨hi1, hla⟩
          · have hle0 : leqL t [] = false := by
              cases t with
              | nil => simp [okSymL] at hok
              | cons c r => rfl
            rw [if_neg (by rw [hle0]; simp)] at hre
            have hip : ¬ (0 : Int) < (i : Int) := by omega
            clear hi0 hle0 hleq
            have e3n : wr.cell? ⟨w.heap.size + 3, 2, none⟩ = some (.slice A' l.length c') := by rw [cell_of_row _ _ _ _ _ _ H3.out]; rfl
            by_cases hfn : ix < b1
            · rw [if_pos hfn] at hre
              have HRE3 := Lib.hid hre
              have hfn' : ¬ (b1 : Int) ≤ (ix : Int) := by omega
              clear hre hfn
              have HA1 := Lib.hid (HN.out.alloc (.cells #[.string (txt t), .int .i64 ix] 42))
              have HF1 := Lib.hid (HO.out.alloc (.cells #[.string (txt t), .int .i64 ix] 42))
              have HY1 := Lib.hid (namedCells ix t wr)
              have HB8 := Lib.hid (HB.out.alloc HB.out.size (.cells #[.string (txt t), .int .i64 ix] 42))
              have H18 := Lib.hid (show (wr.alloc (.cells #[.string (txt t), .int .i64 ix] 42)).heap[w.heap.size + 1]? = _ from (Below.heap_alloc _ _ _ (lt_of_row' H1.out)).trans H1.out)
              have H28 := Lib.hid (show (wr.alloc (.cells #[.string (txt t), .int .i64 ix] 42)).heap[w.heap.size + 2]? = _ from (Below.heap_alloc _ _ _ (lt_of_row' H2.out)).trans H2.out)
              have H38 := Lib.hid (show (wr.alloc (.cells #[.string (txt t), .int .i64 ix] 42)).heap[w.heap.size + 3]? = _ from (Below.heap_alloc _ _ _ (lt_of_row' H3.out)).trans H3.out)
              have HG3 := Lib.hid (show w.heap.size + 4 ≤ (wr.alloc (.cells #[.string (txt t), .int .i64 ix] 42)).heap.size from lt_of_row' H38.out)
              have HG4 := Lib.hid (show l.length + 1 ≤ maxLen from by rw [HLI.out]; unfold maxLen; omega)
              have HG5 := Lib.hid (show (l.length + 1) * 24 ≤ 140737488355328 from by rw [HLI.out]; omega)
              have hll : l.length < 256 := by have := HLI.out; omega
              have hll2 : l.length + 1 ≤ b2 := by have := HLI.out; omega
              go_wp2_with fail
              refine (HSY.out _).mono ?_
              rintro e w' ⟨rfl, rfl⟩
              go_wp2_with fail
              refine (H16.out _).mono ?_
              rintro e w' ⟨rfl, rfl⟩
              go_wp2_with (first
                | (at_builtin; refine wpList_appT rfl (.tmp 236) (.tmp 240) 30 rfl (w.heap.size + 4) 42 _ 24 rfl infoNamed rfl (by omega) nC_len nC_one _ l rfl HA1.out wr.heap.size 1 rfl (t, ix) HY1.out HG4.out HG5.out HG3.out ?_; intro g5 cap5 w8 hown5 hg5 hat5
                   have HAT5 := Lib.hid (show (Value.slice A' l.length c').ownBlock = some g5 ∨ g5 = (wr.alloc (.cells #[.string (txt t), .int .i64 ix] 42)).heap.size from hat5)
                   have HG6 := Lib.hid hg5
                   have HN8 := Lib.hid hown5
                   have H39 := Lib.hid ((hg5.block (w.heap.size + 3) (lt_of_row' H38.out) (fun h => by have := (HA1.out.lt _ h.symm).1; omega)).trans H38.out)
                   have hc8 : w8.cell? ⟨w.heap.size + 3, 2, none⟩ = some (.slice A' l.length c') := by rw [cell_of_row _ _ _ _ _ _ H39.out]; rfl
                   have hf8 : w8.frozen? ⟨w.heap.size + 3, 2, none⟩ = false := frozen_of_row _ _ _ _ _ H39.out
                   clear hat5 hg5 hown5)
                | fail)
              have HB9 := Lib.hid (HA1.out.grew HB8.out (by omega) HB8.out.size HG6.out)
              have H19 := Lib.hid ((HG6.out.block (w.heap.size + 1) (lt_of_row' H18.out) (fun h => by have := (HA1.out.lt _ h.symm).1; omega)).trans H18.out)
              have H29 := Lib.hid ((HG6.out.block (w.heap.size + 2) (lt_of_row' H28.out) (fun h => by have := (HA1.out.lt _ h.symm).1; omega)).trans H28.out)
              have HF9 := Lib.hid (HF1.out.grown HG6.out (fun k hk h => HNE.out k h hk))
              have HNEW := Lib.hid (show ∀ k, (Value.slice (some ⟨g5, 0, none⟩) (l ++ [(t, ix)]).length cap5).ownBlock = some k → (Value.slice F fs.length fc).ownBlock ≠ some k from by
                intro k hk hk2
                have hgk : g5 = k := by simpa [Value.ownBlock] using hk
                rcases HAT5.out with h | h
                · exact HNE.out k (by rw [h, hgk]) hk2
                · have := (HF1.out.lt k hk2).2
                  omega)
              go_roundw
              case rel => exact ⟨l.length + 1, k, l ++ [(t, ix)], t, _, cap5, by have := HLI.out; omega, by simp, HLT.out.1, HLT.out.2, .inr ⟨by omega, by simp⟩, by first | go_num | (have := HLI.out; congr 1; omega), by simpa using ownT_setBelow HN8.out (by simp) _, ownT_setBelow HF9.out (by simp) _, by simpa using HNEW.out, HB9.out.setCell (p := ⟨w.heap.size + 3, 2, none⟩) (Nat.le_add_right _ _) _, (heap_setCell_other w8 _ _ _ (by simp)).trans H19.out, (heap_setCell_other w8 _ _ _ (by simp)).trans H29.out, (by simpa using heap_setCell_same w8 (w.heap.size + 3) 2 _ _ _ H39.out), by rw [HLI.out]; exact HRE3.out⟩
              case measure => simp [intOf]; have := HLI.out; omega
            · rw [if_neg hfn] at hre
              subst hre
              have hrr := HRR.out
              simp only [Option.map_none] at hrr
              subst hrr
              have hfn' : (b1 : Int) ≤ (ix : Int) := by omega
              go_wp2_with fail
              refine (HSY.out _).mono ?_
              rintro e w' ⟨rfl, rfl⟩
              go_wp2_with fail
              refine (H16.out _).mono ?_
              rintro e w' ⟨rfl, rfl⟩
              have z0 : wr.cell? ⟨w.heap.size + 2, 0, none⟩ = some (.int .i64 0) := by rw [cell_of_row _ _ _ _ _ _ H2.out]; rfl
              have z1 : wr.cell? ⟨w.heap.size + 2, 1, none⟩ = some (.slice none 0 0) := by rw [cell_of_row _ _ _ _ _ _ H2.out]; rfl
              have z2 : wr.cell? ⟨w.heap.size + 2, 2, none⟩ = some (.slice none 0 0) := by rw [cell_of_row _ _ _ _ _ _ H2.out]; rfl
              obtain ⟨w9, hw9⟩ : ∃ w9, wr.setRow (w.heap.size + 1) #[.int .i64 0, .slice none 0 0, .slice none 0 0] = w9 := ⟨_, rfl⟩
              have HE9 := Lib.hid hw9
              have HR9 := Lib.hid (show w9.heap[w.heap.size + 1]? = some (.cells #[.int .i64 0, .slice none 0 0, .slice none 0 0] 32 (0, 0)) from by rw [← hw9]; exact setRow_heap _ _ _ _ _ _ H1.out)
              have HB9 := Lib.hid (show Below w.heap.size w w9 from by rw [← hw9]; exact below_setRow HB.out (Nat.le_succ _) _)
              have k0 : w9.cell? ⟨w.heap.size + 1, 0, none⟩ = some (.int .i64 0) := by rw [cell_of_row _ _ _ _ _ _ HR9.out]; rfl
              have k1 : w9.cell? ⟨w.heap.size + 1, 1, none⟩ = some (.slice none 0 0) := by rw [cell_of_row _ _ _ _ _ _ HR9.out]; rfl
              have k2 : w9.cell? ⟨w.heap.size + 1, 2, none⟩ = some (.slice none 0 0) := by rw [cell_of_row _ _ _ _ _ _ HR9.out]; rfl
              clear hw9
              go_wp2_with (first | (refine wpList_store_row rfl 32 _ _ rfl (w.heap.size + 1) #[.int .i64 0, .slice none 0 0, .slice none 0 0] rfl rfl 32 #[.int .i64 0, .slice none 0 0, .slice none 0 0] H1.out expInfo rfl expOne2 ?_; refine (congrArg _ HE9.out).mpr ?_) | fail)
              refine bodyPost_ret (v := .tuple #[.agg #[.int .i64 0, .slice none 0 0, .slice none 0 0], .int .i64 11]) (by simp [results, Try.results16, go_sem, k0, k1, k2]) rfl ⟨?_, HB9.out⟩
              exact rfl
          · have hil : i - 1 < l.length := by have := HLI.out; omega
            obtain ⟨bn, off, hA', hbl, q0, q1⟩ := (HN.out.sl nC_len).nm hil
            have hpl : (l[i - 1]).1 = last := by
              rw [← hla, List.getD_eq_getElem?_getD, List.getElem?_eq_getElem hil, Option.getD_some]
            rw [hpl] at q0
            obtain ⟨j, hj⟩ : ∃ j, i - 1 = j := ⟨_, rfl⟩
            clear q1
            rw [hj] at q0 hil
            have hip : (0 : Int) < (i : Int) := by omega
            have hij : (i : Int) - 1 = (j : Int) := by omega
            have hjl : (j : Int) < (l.length : Int) := by omega
            subst hA'
            clear hla hpl hj hi1
            by_cases hle : leqL t last = true
            · rw [if_pos hle] at hre
              subst hre
              have hrr := HRR.out
              simp only [Option.map_none] at hrr
              subst hrr
              rw [hle] at hleq
              have e3n : wr.cell? ⟨w.heap.size + 3, 2, none⟩ = some (.slice (some ⟨bn, off, none⟩) l.length c') := by rw [cell_of_row _ _ _ _ _ _ H3.out]; rfl
              go_wp2_with fail
              refine (HSY.out _).mono ?_
              rintro e w' ⟨rfl, rfl⟩
              have z0 : wr.cell? ⟨w.heap.size + 2, 0, none⟩ = some (.int .i64 0) := by rw [cell_of_row _ _ _ _ _ _ H2.out]; rfl
              have z1 : wr.cell? ⟨w.heap.size + 2, 1, none⟩ = some (.slice none 0 0) := by rw [cell_of_row _ _ _ _ _ _ H2.out]; rfl
              have z2 : wr.cell? ⟨w.heap.size + 2, 2, none⟩ = some (.slice none 0 0) := by rw [cell_of_row _ _ _ _ _ _ H2.out]; rfl
              obtain ⟨w9, hw9⟩ : ∃ w9, wr.setRow (w.heap.size + 1) #[.int .i64 0, .slice none 0 0, .slice none 0 0] = w9 := ⟨_, rfl⟩
              have HE9 := Lib.hid hw9
              have HR9 := Lib.hid (show w9.heap[w.heap.size + 1]? = some (.cells #[.int .i64 0, .slice none 0 0, .slice none 0 0] 32 (0, 0)) from by rw [← hw9]; exact setRow_heap _ _ _ _ _ _ H1.out)
              have HB9 := Lib.hid (show Below w.heap.size w w9 from by rw [← hw9]; exact below_setRow HB.out (Nat.le_succ _) _)
              have k0 : w9.cell? ⟨w.heap.size + 1, 0, none⟩ = some (.int .i64 0) := by rw [cell_of_row _ _ _ _ _ _ HR9.out]; rfl
              have k1 : w9.cell? ⟨w.heap.size + 1, 1, none⟩ = some (.slice none 0 0) := by rw [cell_of_row _ _ _ _ _ _ HR9.out]; rfl
              have k2 : w9.cell? ⟨w.heap.size + 1, 2, none⟩ = some (.slice none 0 0) := by rw [cell_of_row _ _ _ _ _ _ HR9.out]; rfl
              clear hw9
              go_wp2_with (first | (refine wpList_store_row rfl 32 _ _ rfl (w.heap.size + 1) #[.int .i64 0, .slice none 0 0, .slice none 0 0] rfl rfl 32 #[.int .i64 0, .slice none 0 0, .slice none 0 0] H1.out expInfo rfl expOne2 ?_; refine (congrArg _ HE9.out).mpr ?_) | fail)
              refine bodyPost_ret (v := .tuple #[.agg #[.int .i64 0, .slice none 0 0, .slice none 0 0], .int .i64 11]) (by simp [results, Try.results16, go_sem, k0, k1, k2]) rfl ⟨?_, HB9.out⟩
              exact rfl
            · rw [if_neg hle] at hre
              rw [show leqL t last = false by simpa using hle] at hleq
              clear hle
              have e3n : wr.cell? ⟨w.heap.size + 3, 2, none⟩ = some (.slice (some ⟨bn, off, none⟩) l.length c') := by rw [cell_of_row _ _ _ _ _ _ H3.out]; rfl
              by_cases hfn : ix < b1
              · rw [if_pos hfn] at hre
                have HRE3 := Lib.hid hre
                have hfn' : ¬ (b1 : Int) ≤ (ix : Int) := by omega
                clear hre hfn
                have HA1 := Lib.hid (HN.out.alloc (.cells #[.string (txt t), .int .i64 ix] 42))
                have HF1 := Lib.hid (HO.out.alloc (.cells #[.string (txt t), .int .i64 ix] 42))
                have HY1 := Lib.hid (namedCells ix t wr)
                have HB8 := Lib.hid (HB.out.alloc HB.out.size (.cells #[.string (txt t), .int .i64 ix] 42))
                have H18 := Lib.hid (show (wr.alloc (.cells #[.string (txt t), .int .i64 ix] 42)).heap[w.heap.size + 1]? = _ from (Below.heap_alloc _ _ _ (lt_of_row' H1.out)).trans H1.out)
                have H28 := Lib.hid (show (wr.alloc (.cells #[.string (txt t), .int .i64 ix] 42)).heap[w.heap.size + 2]? = _ from (Below.heap_alloc _ _ _ (lt_of_row' H2.out)).trans H2.out)
                have H38 := Lib.hid (show (wr.alloc (.cells #[.string (txt t), .int .i64 ix] 42)).heap[w.heap.size + 3]? = _ from (Below.heap_alloc _ _ _ (lt_of_row' H3.out)).trans H3.out)
                have HG3 := Lib.hid (show w.heap.size + 4 ≤ (wr.alloc (.cells #[.string (txt t), .int .i64 ix] 42)).heap.size from lt_of_row' H38.out)
                have HG4 := Lib.hid (show l.length + 1 ≤ maxLen from by rw [HLI.out]; unfold maxLen; omega)
                have HG5 := Lib.hid (show (l.length + 1) * 24 ≤ 140737488355328 from by rw [HLI.out]; omega)
                have hll : l.length < 256 := by have := HLI.out; omega
                have hll2 : l.length + 1 ≤ b2 := by have := HLI.out; omega
                go_wp2_with fail
                refine (HSY.out _).mono ?_
                rintro e w' ⟨rfl, rfl⟩
                go_wp2_with fail
                refine (H16.out _).mono ?_
                rintro e w' ⟨rfl, rfl⟩
                go_wp2_with (first
                  | (at_builtin; refine wpList_appT rfl (.tmp 236) (.tmp 240) 30 rfl (w.heap.size + 4) 42 _ 24 rfl infoNamed rfl (by omega) nC_len nC_one _ l rfl HA1.out wr.heap.size 1 rfl (t, ix) HY1.out HG4.out HG5.out HG3.out ?_; intro g5 cap5 w8 hown5 hg5 hat5
                     have HAT5 := Lib.hid (show (Value.slice (some ⟨bn, off, none⟩) l.length c').ownBlock = some g5 ∨ g5 = (wr.alloc (.cells #[.string (txt t), .int .i64 ix] 42)).heap.size from hat5)
                     have HG6 := Lib.hid hg5
                     have HN8 := Lib.hid hown5
                     have H39 := Lib.hid ((hg5.block (w.heap.size + 3) (lt_of_row' H38.out) (fun h => by have := (HA1.out.lt _ h.symm).1; omega)).trans H38.out)
                     have hc8 : w8.cell? ⟨w.heap.size + 3, 2, none⟩ = some (.slice (some ⟨bn, off, none⟩) l.length c') := by rw [cell_of_row _ _ _ _ _ _ H39.out]; rfl
                     have hf8 : w8.frozen? ⟨w.heap.size + 3, 2, none⟩ = false := frozen_of_row _ _ _ _ _ H39.out
                     clear hat5 hg5 hown5)
                  | fail)
                have HB9 := Lib.hid (HA1.out.grew HB8.out (by omega) HB8.out.size HG6.out)
                have H19 := Lib.hid ((HG6.out.block (w.heap.size + 1) (lt_of_row' H18.out) (fun h => by have := (HA1.out.lt _ h.symm).1; omega)).trans H18.out)
                have H29 := Lib.hid ((HG6.out.block (w.heap.size + 2) (lt_of_row' H28.out) (fun h => by have := (HA1.out.lt _ h.symm).1; omega)).trans H28.out)
                have HF9 := Lib.hid (HF1.out.grown HG6.out (fun k hk h => HNE.out k h hk))
                have HNEW := Lib.hid (show ∀ k, (Value.slice (some ⟨g5, 0, none⟩) (l ++ [(t, ix)]).length cap5).ownBlock = some k → (Value.slice F fs.length fc).ownBlock ≠ some k from by
                  intro k hk hk2
                  have hgk : g5 = k := by simpa [Value.ownBlock] using hk
                  rcases HAT5.out with h | h
                  · exact HNE.out k (by rw [h, hgk]) hk2
                  · have := (HF1.out.lt k hk2).2
                    omega)
                go_roundw
                case rel => exact ⟨l.length + 1, k, l ++ [(t, ix)], t, _, cap5, by have := HLI.out; omega, by simp, HLT.out.1, HLT.out.2, .inr ⟨by omega, by simp⟩, by first | go_num | (have := HLI.out; congr 1; omega), by simpa using ownT_setBelow HN8.out (by simp) _, ownT_setBelow HF9.out (by simp) _, by simpa using HNEW.out, HB9.out.setCell (p := ⟨w.heap.size + 3, 2, none⟩) (Nat.le_add_right _ _) _, (heap_setCell_other w8 _ _ _ (by simp)).trans H19.out, (heap_setCell_other w8 _ _ _ (by simp)).trans H29.out, (by simpa using heap_setCell_same w8 (w.heap.size + 3) 2 _ _ _ H39.out), by rw [HLI.out]; exact HRE3.out⟩
                case measure => simp [intOf]; have := HLI.out; omega
              · rw [if_neg hfn] at hre
                subst hre
                have hrr := HRR.out
                simp only [Option.map_none] at hrr
                subst hrr
                have hfn' : (b1 : Int) ≤ (ix : Int) := by omega
                go_wp2_with fail
                refine (HSY.out _).mono ?_
                rintro e w' ⟨rfl, rfl⟩
                go_wp2_with fail
                refine (H16.out _).mono ?_
                rintro e w' ⟨rfl, rfl⟩
                have z0 : wr.cell? ⟨w.heap.size + 2, 0, none⟩ = some (.int .i64 0) := by rw [cell_of_row _ _ _ _ _ _ H2.out]; rfl
                have z1 : wr.cell? ⟨w.heap.size + 2, 1, none⟩ = some (.slice none 0 0) := by rw [cell_of_row _ _ _ _ _ _ H2.out]; rfl
                have z2 : wr.cell? ⟨w.heap.size + 2, 2, none⟩ = some (.slice none 0 0) := by rw [cell_of_row _ _ _ _ _ _ H2.out]; rfl
                obtain ⟨w9, hw9⟩ : ∃ w9, wr.setRow (w.heap.size + 1) #[.int .i64 0, .slice none 0 0, .slice none 0 0] = w9 := ⟨_, rfl⟩
                have HE9 := Lib.hid hw9
                have HR9 := Lib.hid (show w9.heap[w.heap.size + 1]? = some (.cells #[.int .i64 0, .slice none 0 0, .slice none 0 0] 32 (0, 0)) from by rw [← hw9]; exact setRow_heap _ _ _ _ _ _ H1.out)
                have HB9 := Lib.hid (show Below w.heap.size w w9 from by rw [← hw9]; exact below_setRow HB.out (Nat.le_succ _) _)
                have k0 : w9.cell? ⟨w.heap.size + 1, 0, none⟩ = some (.int .i64 0) := by rw [cell_of_row _ _ _ _ _ _ HR9.out]; rfl
                have k1 : w9.cell? ⟨w.heap.size + 1, 1, none⟩ = some (.slice none 0 0) := by rw [cell_of_row _ _ _ _ _ _ HR9.out]; rfl
                have k2 : w9.cell? ⟨w.heap.size + 1, 2, none⟩ = some (.slice none 0 0) := by rw [cell_of_row _ _ _ _ _ _ HR9.out]; rfl
                clear hw9
                go_wp2_with (first | (refine wpList_store_row rfl 32 _ _ rfl (w.heap.size + 1) #[.int .i64 0, .slice none 0 0, .slice none 0 0] rfl rfl 32 #[.int .i64 0, .slice none 0 0, .slice none 0 0] H1.out expInfo rfl expOne2 ?_; refine (congrArg _ HE9.out).mpr ?_) | fail)
                refine bodyPost_ret (v := .tuple #[.agg #[.int .i64 0, .slice none 0 0, .slice none 0 0], .int .i64 11]) (by simp [results, Try.results16, go_sem, k0, k1, k2]) rfl ⟨?_, HB9.out⟩
                exact rfl
        · rw [if_neg hok] at hre
          subst hre
          have hrr := HRR.out
          simp only [Option.map_none] at hrr
          subst hrr
          rw [show okSymL t = false by simpa using hok] at HSY
          go_wp2_with fail
          refine (HSY.out _).mono ?_
          rintro e w' ⟨rfl, rfl⟩
          have z0 : wr.cell? ⟨w.heap.size + 2, 0, none⟩ = some (.int .i64 0) := by rw [cell_of_row _ _ _ _ _ _ H2.out]; rfl
          have z1 : wr.cell? ⟨w.heap.size + 2, 1, none⟩ = some (.slice none 0 0) := by rw [cell_of_row _ _ _ _ _ _ H2.out]; rfl
          have z2 : wr.cell? ⟨w.heap.size + 2, 2, none⟩ = some (.slice none 0 0) := by rw [cell_of_row _ _ _ _ _ _ H2.out]; rfl
          obtain ⟨w9, hw9⟩ : ∃ w9, wr.setRow (w.heap.size + 1) #[.int .i64 0, .slice none 0 0, .slice none 0 0] = w9 := ⟨_, rfl⟩
          have HE9 := Lib.hid hw9
          have HR9 := Lib.hid (show w9.heap[w.heap.size + 1]? = some (.cells #[.int .i64 0, .slice none 0 0, .slice none 0 0] 32 (0, 0)) from by rw [← hw9]; exact setRow_heap _ _ _ _ _ _ H1.out)
          have HB9 := Lib.hid (show Below w.heap.size w w9 from by rw [← hw9]; exact below_setRow HB.out (Nat.le_succ _) _)
          have k0 : w9.cell? ⟨w.heap.size + 1, 0, none⟩ = some (.int .i64 0) := by rw [cell_of_row _ _ _ _ _ _ HR9.out]; rfl
          have k1 : w9.cell? ⟨w.heap.size + 1, 1, none⟩ = some (.slice none 0 0) := by rw [cell_of_row _ _ _ _ _ _ HR9.out]; rfl
          have k2 : w9.cell? ⟨w.heap.size + 1, 2, none⟩ = some (.slice none 0 0) := by rw [cell_of_row _ _ _ _ _ _ HR9.out]; rfl
          clear hw9
          go_wp2_with (first | (refine wpList_store_row rfl 32 _ _ rfl (w.heap.size + 1) #[.int .i64 0, .slice none 0 0, .slice none 0 0] rfl rfl 32 #[.int .i64 0, .slice none 0 0, .slice none 0 0] H1.out expInfo rfl expOne2 ?_; refine (congrArg _ HE9.out).mpr ?_) | fail)
          refine bodyPost_ret (v := .tuple #[.agg #[.int .i64 0, .slice none 0 0, .slice none 0 0], .int .i64 11]) (by simp [results, Try.results16, go_sem, k0, k1, k2]) rfl ⟨?_, HB9.out⟩
          exact rfl
    · obtain rfl : k = 0 := by omega
      have hre := HR.out
      simp only [namesL] at hre
      subst hre
      have hrr := HRR.out
      simp only [Option.map_some] at hrr
      subst hrr
      have z0 : wr.cell? ⟨w.heap.size + 3, 0, none⟩ = some (.int .i64 b0) := by rw [cell_of_row _ _ _ _ _ _ H3.out]; rfl
      have z1 : wr.cell? ⟨w.heap.size + 3, 1, none⟩ = some (.slice F fs.length fc) := by rw [cell_of_row _ _ _ _ _ _ H3.out]; rfl
      have z2 : wr.cell? ⟨w.heap.size + 3, 2, none⟩ = some (.slice A' l.length c') := by rw [cell_of_row _ _ _ _ _ _ H3.out]; rfl
      obtain ⟨w9, hw9⟩ : ∃ w9, wr.setRow (w.heap.size + 1) #[.int .i64 b0, .slice F fs.length fc, .slice A' l.length c'] = w9 := ⟨_, rfl⟩
      have HE9 := Lib.hid hw9
      have HR9 := Lib.hid (show w9.heap[w.heap.size + 1]? = some (.cells #[.int .i64 b0, .slice F fs.length fc, .slice A' l.length c'] 32 (0, 0)) from by rw [← hw9]; exact setRow_heap _ _ _ _ _ _ H1.out)
      have HB9 := Lib.hid (show Below w.heap.size w w9 from by rw [← hw9]; exact below_setRow HB.out (Nat.le_succ _) _)
      have k0 : w9.cell? ⟨w.heap.size + 1, 0, none⟩ = some (.int .i64 b0) := by rw [cell_of_row _ _ _ _ _ _ HR9.out]; rfl
      have k1 : w9.cell? ⟨w.heap.size + 1, 1, none⟩ = some (.slice F fs.length fc) := by rw [cell_of_row _ _ _ _ _ _ HR9.out]; rfl
      have k2 : w9.cell? ⟨w.heap.size + 1, 2, none⟩ = some (.slice A' l.length c') := by rw [cell_of_row _ _ _ _ _ _ HR9.out]; rfl
      clear hw9
      go_wp2_with (first | (refine wpList_store_row rfl 32 _ _ rfl (w.heap.size + 1) #[.int .i64 b0, .slice F fs.length fc, .slice A' l.length c'] rfl rfl 32 #[.int .i64 0, .slice none 0 0, .slice none 0 0] H1.out expInfo rfl expOne2 ?_; refine (congrArg _ HE9.out).mpr ?_) | fail)
      refine bodyPost_ret (v := .tuple #[.agg #[.int .i64 b0, .slice F fs.length fc, .slice A' l.length c'], .int .i64 0]) (by simp [results, Try.results16, go_sem, k0, k1, k2]) rfl ⟨?_, HB9.out⟩
      exact ⟨F, fc, A', c', rfl, by rw [← HE9.out]; exact Joins.ownsRow_le (ownT_setRowBelow HO.out (by omega) _) (by omega), by rw [← HE9.out]; exact Joins.ownsRow_le (ownT_setRowBelow HN.out (by omega) _) (by omega)⟩
end Go.Proofs.Ytbjabncefhgefaa
namespace Go.Proofs.Ytbjabncefhgefaa
open Go.ChangeShapes Go.WideShapes Go.ChangeAt Go.RowKit
set_option linter.unusedVariables false
set_option linter.unusedSimpArgs false

def finX (bs : List Nat) (b0 b1 b2 b4 b5 : Nat) (f : Option (List FnV)) : Option ExpV := match f with
  | none => none
  | some f => match namesL bs b4 b5 b1 b2 0 [] [] with
    | none => none
    | some n => some (b0, f, n)
set_option maxRecDepth 100000 in
set_option maxHeartbeats 8000000 in
theorem rexp_funcs (bs : List Nat) (rva size b0 b1 b2 b3 b4 b5 : Nat) (w wr : World) (R : Option (List FnV)) (RR : Option ExpV)
    (HLB : Hid (Lb bs)) (hlen : bs.length ≤ 1000000) (hr : rva ≤ 9223372036854775807) (hz : size ≤ 9223372036854775807) (hn1 : b1 ≤ 256) (hn2 : b2 ≤ 256) (HIN1 : Hid (b1 = 0 ∨ b3 + 4 * b1 ≤ bs.length)) (HIN : Hid (b2 = 0 ∨ (b4 + 4 * b2 ≤ bs.length ∧ b5 + 2 * b2 ≤ bs.length)))
    (HR : Hid (funcsL bs rva size b3 b1 0 [] = R)) (HRR : Hid (RR = finX bs b0 b1 b2 b4 b5 R))
    (HB : Hid (Below w.heap.size w wr)) (H0 : Hid (wr.heap[w.heap.size]? = some (.cells #[.int .i64 rva, .int .i64 size] 26 (0, 0)))) (H1 : Hid (wr.heap[w.heap.size + 1]? = some (.cells #[.int .i64 0, .slice none 0 0, .slice none 0 0] 32 (0, 0)))) (H2 : Hid (wr.heap[w.heap.size + 2]? = some (.cells #[.int .i64 0, .slice none 0 0, .slice none 0 0] 32 (0, 0))))
    (H3 : Hid (wr.heap[w.heap.size + 3]? = some (.cells #[.int .i64 b0, .slice none 0 0, .slice none 0 0] 32 (0, 0)))) (a : Act)
    (ha : Has 244 [0, 3, 4, 6, 7, 8, 9, 10, 11, 12] [.string (txt bs), .pointer (some ⟨w.heap.size, 0, none⟩), .pointer (some ⟨w.heap.size + 1, 0, none⟩), .pointer (some ⟨w.heap.size + 2, 0, none⟩), .pointer (some ⟨w.heap.size + 3, 0, none⟩), .int .i64 b1, .int .i64 b2, .int .i64 b3, .int .i64 b4, .int .i64 b5] a) : (dropS 8 bodyX).wp Try.prog (QX w RR) a wr := by
  obtain ⟨u, rfl⟩ := xopen_0_3_4_6_7_8_9_10_11_12 ha
  clear ha
  conv => arg 2; whnf
  have hsz : (txt bs).size = bs.length := txt_size bs
  go_upto_region 11 with (fail)
  rename_i K2 hK2 K1 hK1
  have HK2 := Lib.hid hK2
  clear hK2
  go_wp2_with fail
  go_loopw [13] (fun v13 wr => ∃ (i k : Nat) (l : List FnV) (A' : Option Addr) (c' : Nat), i + k = b1 ∧ l.length = i ∧ v13 = .int .i64 i ∧ OwnT gC 2 wr (w.heap.size + 4) 37 (.slice A' l.length c') l ∧ Below w.heap.size w wr ∧ wr.heap[w.heap.size]? = some (.cells #[.int .i64 rva, .int .i64 size] 26 (0, 0)) ∧ wr.heap[w.heap.size + 1]? = some (.cells #[.int .i64 0, .slice none 0 0, .slice none 0 0] 32 (0, 0)) ∧ wr.heap[w.heap.size + 2]? = some (.cells #[.int .i64 0, .slice none 0 0, .slice none 0 0] 32 (0, 0)) ∧ wr.heap[w.heap.size + 3]? = some (.cells #[.int .i64 b0, .slice A' l.length c', .slice none 0 0] 32 (0, 0)) ∧ funcsL bs rva size b3 k i l = R) (fun v13 _ => b1 - (intOf v13).toNat)
  case atStart => exact ⟨0, b1, [], none, 0, by omega, rfl, rfl, OwnT.nil _ _ _, HB.out, H0.out, H1.out, H2.out, H3.out, HR.out⟩
  case round =>
    obtain ⟨i, k, l, A', c', hik, hli, rfl, hown, hbel, h0, h1, h2, h3, hR⟩ := hrel
    have HO := Lib.hid hown
    replace HB := Lib.hid hbel
    replace H0 := Lib.hid h0
    replace H1 := Lib.hid h1
    replace H2 := Lib.hid h2
    replace H3 := Lib.hid h3
    replace HR := Lib.hid hR
    have HLI := Lib.hid hli
    clear hown hbel h0 h1 h2 h3 hR hli
    by_cases hlt : i < b1
    · obtain ⟨k, rfl⟩ : ∃ q, k = q + 1 := ⟨k - 1, by omega⟩
      obtain ⟨m4, hm4⟩ : ∃ m, 4 * i = m := ⟨_, rfl⟩
      obtain ⟨o, ho⟩ : ∃ o, b3 + m4 = o := ⟨_, rfl⟩
      have hob : o + 4 ≤ bs.length := by have := HIN1.out; omega
      have em : (4 : Int) * (i : Int) = (m4 : Int) := by omega
      have wm : IntKind.i64.wrap (m4 : Int) = (m4 : Int) := by rw [IntKind.wrap_i64]; omega
      have eo : (b3 : Int) + (m4 : Int) = (o : Int) := by omega
      have wo : IntKind.i64.wrap (o : Int) = (o : Int) := by rw [IntKind.wrap_i64]; omega
      have HU := Lib.hid (fun W => rint_list bs o 4 W HLB.out (by omega) (by omega) hob)
      have hre := HR.out
      simp only [funcsL] at hre
      rw [hm4, ho] at hre
      have hv := numL_lt (HLB.out.drop o) 4
      obtain ⟨v, hvv⟩ : ∃ v, numL (bs.drop o) 4 = v := ⟨_, rfl⟩
      rw [hvv] at HU hre hv
      rw [show (256 : Nat) ^ 4 = 4294967296 from rfl] at hv
      have HTX := Lib.hid (fun W => rtext_list bs v 64 W HLB.out (by omega))
      have HRE2 := Lib.hid hre
      clear hre hvv hm4 ho hob
      obtain ⟨w1, hw1⟩ : ∃ w1, wr.alloc (.cells #[.int .i64 v, .string ⟨#[]⟩] 37) = w1 := ⟨_, rfl⟩
      have HE1 := Lib.hid hw1
      have HA := Lib.hid (show Below wr.heap.size wr w1 from by rw [← hw1]; exact (Below.refl wr.heap.size wr).alloc (Nat.le_refl _) _)
      have HT := Lib.hid (show w1.heap[wr.heap.size]? = some (.cells #[.int .i64 v, .string (txt [])] 37 (0, 0)) from by rw [← hw1]; exact heap_alloc_new wr _)
      clear hw1
      have t0 : w1.cell? ⟨wr.heap.size, 0, none⟩ = some (.int .i64 v) := by rw [cell_of_row _ _ _ _ _ _ HT.out]; rfl
      have r0 : w1.cell? ⟨w.heap.size, 0, none⟩ = some (.int .i64 rva) := by rw [cell_of_row _ _ _ _ _ _ ((HA.out.block _ (lt_of_row' H0.out)).trans H0.out)]; rfl
      have r1 : w1.cell? ⟨w.heap.size, 1, none⟩ = some (.int .i64 size) := by rw [cell_of_row _ _ _ _ _ _ ((HA.out.block _ (lt_of_row' H0.out)).trans H0.out)]; rfl
      have hvI : (v : Int) < 4294967296 := by omega
      go_wp2_with fail
      refine (HU.out _).mono ?_
      rintro e w' ⟨rfl, rfl⟩
      clear em wm eo wo
      go_upto_region 15 with (fail)
      refine (congrArg _ HE1.out).mpr ?_
      have HRE4 := HRE2.out
      unfold readFn at HRE4
      by_cases hout : v < rva ∨ size ≤ v - rva
      · rw [if_pos hout] at HRE4
        by_cases hvl : v < bs.length
        · rw [if_pos hvl] at HRE4
          have HRE3 := Lib.hid HRE4
          have dv : ¬ (bs.length : Int) ≤ (v : Int) := by omega
          clear HRE4 hvl
          rcases hout with ho1 | ho1
          · have d1 : ¬ (rva : Int) ≤ (v : Int) := by omega
            clear ho1
            clear t0
            have e3f : w1.cell? ⟨w.heap.size + 3, 1, none⟩ = some (.slice A' l.length c') := by rw [cell_of_row _ _ _ _ _ _ ((HA.out.block _ (lt_of_row' H3.out)).trans H3.out)]; rfl
            have t0 : w1.cell? ⟨wr.heap.size, 0, none⟩ = some (.int .i64 v) := by rw [cell_of_row _ _ _ _ _ _ HT.out]; rfl
            have t1 : w1.cell? ⟨wr.heap.size, 1, none⟩ = some (.string (txt [])) := by rw [cell_of_row _ _ _ _ _ _ HT.out]; rfl
            have HA1 := Lib.hid ((HO.out.below HA.out).alloc (.cells #[.int .i64 v, .string (txt [])] 37))
            have HY1 := Lib.hid (funcCells v [] w1)
            have HB7 := Lib.hid (HB.out.trans (HA.out.mono HB.out.size))
            have HB8 := Lib.hid (HB7.out.alloc HB7.out.size (.cells #[.int .i64 v, .string (txt [])] 37))
            have hAB : Below wr.heap.size wr (w1.alloc (.cells #[.int .i64 v, .string (txt [])] 37)) := HA.out.alloc HA.out.size _
            have H08 := Lib.hid ((hAB.block w.heap.size (lt_of_row' H0.out)).trans H0.out)
            have H18 := Lib.hid ((hAB.block (w.heap.size + 1) (lt_of_row' H1.out)).trans H1.out)
            have H28 := Lib.hid ((hAB.block (w.heap.size + 2) (lt_of_row' H2.out)).trans H2.out)
            have H38 := Lib.hid ((hAB.block (w.heap.size + 3) (lt_of_row' H3.out)).trans H3.out)
            have HG3 := Lib.hid (show w.heap.size + 4 ≤ (w1.alloc (.cells #[.int .i64 v, .string (txt [])] 37)).heap.size from lt_of_row' H38.out)
            have HG4 := Lib.hid (show l.length + 1 ≤ maxLen from by rw [HLI.out]; unfold maxLen; omega)
            have HG5 := Lib.hid (show (l.length + 1) * 24 ≤ 140737488355328 from by rw [HLI.out]; omega)
            have hll : l.length < 256 := by have := HLI.out; omega
            have hll2 : l.length + 1 ≤ b1 := by have := HLI.out; omega
            clear hAB
            go_wp2_with (first
                | (at_builtin; refine wpList_appT rfl (.tmp 181) (.tmp 183) 29 rfl (w.heap.size + 4) 37 _ 24 rfl infoFunc rfl (by omega) gC_len gC_one _ l rfl HA1.out w1.heap.size 1 rfl (v, []) HY1.out HG4.out HG5.out HG3.out ?_; intro g5 cap5 w8 hown5 hg5 hat5
                   have HG6 := Lib.hid hg5
                   have HN8 := Lib.hid hown5
                   have H39 := Lib.hid ((hg5.block (w.heap.size + 3) (lt_of_row' H38.out) (fun h => by have := (HA1.out.lt _ h.symm).1; omega)).trans H38.out)
                   have hc8 : w8.cell? ⟨w.heap.size + 3, 1, none⟩ = some (.slice A' l.length c') := by rw [cell_of_row _ _ _ _ _ _ H39.out]; rfl
                   have hf8 : w8.frozen? ⟨w.heap.size + 3, 1, none⟩ = false := frozen_of_row _ _ _ _ _ H39.out
                   clear hat5 hg5 hown5)
                | fail)
            have HB9 := Lib.hid (HA1.out.grew HB8.out (by omega) HB8.out.size HG6.out)
            have H09 := Lib.hid ((HG6.out.block w.heap.size (lt_of_row' H08.out) (fun h => by have := (HA1.out.lt _ h.symm).1; omega)).trans H08.out)
            have H19 := Lib.hid ((HG6.out.block (w.heap.size + 1) (lt_of_row' H18.out) (fun h => by have := (HA1.out.lt _ h.symm).1; omega)).trans H18.out)
            have H29 := Lib.hid ((HG6.out.block (w.heap.size + 2) (lt_of_row' H28.out) (fun h => by have := (HA1.out.lt _ h.symm).1; omega)).trans H28.out)
            go_roundw
            case rel => exact ⟨l.length + 1, k, l ++ [(v, [])], _, cap5, by have := HLI.out; omega, by simp, by first | go_num | (have := HLI.out; congr 1; omega), by simpa using ownT_setBelow HN8.out (by simp) _, HB9.out.setCell (p := ⟨w.heap.size + 3, 1, none⟩) (Nat.le_add_right _ _) _, (heap_setCell_other w8 _ _ _ (by simp)).trans H09.out, (heap_setCell_other w8 _ _ _ (by simp)).trans H19.out, (heap_setCell_other w8 _ _ _ (by simp)).trans H29.out, (by simpa using heap_setCell_same w8 (w.heap.size + 3) 1 _ _ _ H39.out), by rw [HLI.out]; exact HRE3.out⟩
            case measure => simp [intOf]; have := HLI.out; omega
          · by_cases hge : v < rva
            · have d1 : ¬ (rva : Int) ≤ (v : Int) := by omega
              clear ho1 hge
              clear t0
              have e3f : w1.cell? ⟨w.heap.size + 3, 1, none⟩ = some (.slice A' l.length c') := by rw [cell_of_row _ _ _ _ _ _ ((HA.out.block _ (lt_of_row' H3.out)).trans H3.out)]; rfl
              have t0 : w1.cell? ⟨wr.heap.size, 0, none⟩ = some (.int .i64 v) := by rw [cell_of_row _ _ _ _ _ _ HT.out]; rfl
              have t1 : w1.cell? ⟨wr.heap.size, 1, none⟩ = some (.string (txt [])) := by rw [cell_of_row _ _ _ _ _ _ HT.out]; rfl
              have HA1 := Lib.hid ((HO.out.below HA.out).alloc (.cells #[.int .i64 v, .string (txt [])] 37))
              have HY1 := Lib.hid (funcCells v [] w1)
              have HB7 := Lib.hid (HB.out.trans (HA.out.mono HB.out.size))
              have HB8 := Lib.hid (HB7.out.alloc HB7.out.size (.cells #[.int .i64 v, .string (txt [])] 37))
              have hAB : Below wr.heap.size wr (w1.alloc (.cells #[.int .i64 v, .string (txt [])] 37)) := HA.out.alloc HA.out.size _
              have H08 := Lib.hid ((hAB.block w.heap.size (lt_of_row' H0.out)).trans H0.out)
              have H18 := Lib.hid ((hAB.block (w.heap.size + 1) (lt_of_row' H1.out)).trans H1.out)
              have H28 := Lib.hid ((hAB.block (w.heap.size + 2) (lt_of_row' H2.out)).trans H2.out)
              have H38 := Lib.hid ((hAB.block (w.heap.size + 3) (lt_of_row' H3.out)).trans H3.out)
              have HG3 := Lib.hid (show w.heap.size + 4 ≤ (w1.alloc (.cells #[.int .i64 v, .string (txt [])] 37)).heap.size from lt_of_row' H38.out)
              have HG4 := Lib.hid (show l.length + 1 ≤ maxLen from by rw [HLI.out]; unfold maxLen; omega)
              have HG5 := Lib.hid (show (l.length + 1) * 24 ≤ 140737488355328 from by rw [HLI.out]; omega)
              have hll : l.length < 256 := by have := HLI.out; omega
              have hll2 : l.length + 1 ≤ b1 := by have := HLI.out; omega
              clear hAB
              go_wp2_with (first
                  | (at_builtin; refine wpList_appT rfl (.tmp 181) (.tmp 183) 29 rfl (w.heap.size + 4) 37 _ 24 rfl infoFunc rfl (by omega) gC_len gC_one _ l rfl HA1.out w1.heap.size 1 rfl (v, []) HY1.out HG4.out HG5.out HG3.out ?_; intro g5 cap5 w8 hown5 hg5 hat5
                     have HG6 := Lib.hid hg5
                     have HN8 := Lib.hid hown5
                     have H39 := Lib.hid ((hg5.block (w.heap.size + 3) (lt_of_row' H38.out) (fun h => by have := (HA1.out.lt _ h.symm).1; omega)).trans H38.out)
                     have hc8 : w8.cell? ⟨w.heap.size + 3, 1, none⟩ = some (.slice A' l.length c') := by rw [cell_of_row _ _ _ _ _ _ H39.out]; rfl
                     have hf8 : w8.frozen? ⟨w.heap.size + 3, 1, none⟩ = false := frozen_of_row _ _ _ _ _ H39.out
                     clear hat5 hg5 hown5)
                  | fail)
              have HB9 := Lib.hid (HA1.out.grew HB8.out (by omega) HB8.out.size HG6.out)
              have H09 := Lib.hid ((HG6.out.block w.heap.size (lt_of_row' H08.out) (fun h => by have := (HA1.out.lt _ h.symm).1; omega)).trans H08.out)
              have H19 := Lib.hid ((HG6.out.block (w.heap.size + 1) (lt_of_row' H18.out) (fun h => by have := (HA1.out.lt _ h.symm).1; omega)).trans H18.out)
              have H29 := Lib.hid ((HG6.out.block (w.heap.size + 2) (lt_of_row' H28.out) (fun h => by have := (HA1.out.lt _ h.symm).1; omega)).trans H28.out)
              go_roundw
              case rel => exact ⟨l.length + 1, k, l ++ [(v, [])], _, cap5, by have := HLI.out; omega, by simp, by first | go_num | (have := HLI.out; congr 1; omega), by simpa using ownT_setBelow HN8.out (by simp) _, HB9.out.setCell (p := ⟨w.heap.size + 3, 1, none⟩) (Nat.le_add_right _ _) _, (heap_setCell_other w8 _ _ _ (by simp)).trans H09.out, (heap_setCell_other w8 _ _ _ (by simp)).trans H19.out, (heap_setCell_other w8 _ _ _ (by simp)).trans H29.out, (by simpa using heap_setCell_same w8 (w.heap.size + 3) 1 _ _ _ H39.out), by rw [HLI.out]; exact HRE3.out⟩
              case measure => simp [intOf]; have := HLI.out; omega
            · have d1 : (rva : Int) ≤ (v : Int) := by omega
              have d2 : ¬ (v : Int) - (rva : Int) < (size : Int) := by omega
              clear ho1 hge
              clear t0
              have e3f : w1.cell? ⟨w.heap.size + 3, 1, none⟩ = some (.slice A' l.length c') := by rw [cell_of_row _ _ _ _ _ _ ((HA.out.block _ (lt_of_row' H3.out)).trans H3.out)]; rfl
              have t0 : w1.cell? ⟨wr.heap.size, 0, none⟩ = some (.int .i64 v) := by rw [cell_of_row _ _ _ _ _ _ HT.out]; rfl
              have t1 : w1.cell? ⟨wr.heap.size, 1, none⟩ = some (.string (txt [])) := by rw [cell_of_row _ _ _ _ _ _ HT.out]; rfl
              have HA1 := Lib.hid ((HO.out.below HA.out).alloc (.cells #[.int .i64 v, .string (txt [])] 37))
              have HY1 := Lib.hid (funcCells v [] w1)
              have HB7 := Lib.hid (HB.out.trans (HA.out.mono HB.out.size))
              have HB8 := Lib.hid (HB7.out.alloc HB7.out.size (.cells #[.int .i64 v, .string (txt [])] 37))
              have hAB : Below wr.heap.size wr (w1.alloc (.cells #[.int .i64 v, .string (txt [])] 37)) := HA.out.alloc HA.out.size _
              have H08 := Lib.hid ((hAB.block w.heap.size (lt_of_row' H0.out)).trans H0.out)
              have H18 := Lib.hid ((hAB.block (w.heap.size + 1) (lt_of_row' H1.out)).trans H1.out)
              have H28 := Lib.hid ((hAB.block (w.heap.size + 2) (lt_of_row' H2.out)).trans H2.out)
              have H38 := Lib.hid ((hAB.block (w.heap.size + 3) (lt_of_row' H3.out)).trans H3.out)
              have HG3 := Lib.hid (show w.heap.size + 4 ≤ (w1.alloc (.cells #[.int .i64 v, .string (txt [])] 37)).heap.size from lt_of_row' H38.out)
              have HG4 := Lib.hid (show l.length + 1 ≤ maxLen from by rw [HLI.out]; unfold maxLen; omega)
              have HG5 := Lib.hid (show (l.length + 1) * 24 ≤ 140737488355328 from by rw [HLI.out]; omega)
              have hll : l.length < 256 := by have := HLI.out; omega
              have hll2 : l.length + 1 ≤ b1 := by have := HLI.out; omega
              clear hAB
              go_wp2_with (first
                  | (at_builtin; refine wpList_appT rfl (.tmp 181) (.tmp 183) 29 rfl (w.heap.size + 4) 37 _ 24 rfl infoFunc rfl (by omega) gC_len gC_one _ l rfl HA1.out w1.heap.size 1 rfl (v, []) HY1.out HG4.out HG5.out HG3.out ?_; intro g5 cap5 w8 hown5 hg5 hat5
                     have HG6 := Lib.hid hg5
                     have HN8 := Lib.hid hown5
                     have H39 := Lib.hid ((hg5.block (w.heap.size + 3) (lt_of_row' H38.out) (fun h => by have := (HA1.out.lt _ h.symm).1; omega)).trans H38.out)
                     have hc8 : w8.cell? ⟨w.heap.size + 3, 1, none⟩ = some (.slice A' l.length c') := by rw [cell_of_row _ _ _ _ _ _ H39.out]; rfl
                     have hf8 : w8.frozen? ⟨w.heap.size + 3, 1, none⟩ = false := frozen_of_row _ _ _ _ _ H39.out
                     clear hat5 hg5 hown5)
                  | fail)
              have HB9 := Lib.hid (HA1.out.grew HB8.out (by omega) HB8.out.size HG6.out)
              have H09 := Lib.hid ((HG6.out.block w.heap.size (lt_of_row' H08.out) (fun h => by have := (HA1.out.lt _ h.symm).1; omega)).trans H08.out)
              have H19 := Lib.hid ((HG6.out.block (w.heap.size + 1) (lt_of_row' H18.out) (fun h => by have := (HA1.out.lt _ h.symm).1; omega)).trans H18.out)
              have H29 := Lib.hid ((HG6.out.block (w.heap.size + 2) (lt_of_row' H28.out) (fun h => by have := (HA1.out.lt _ h.symm).1; omega)).trans H28.out)
              go_roundw
              case rel => exact ⟨l.length + 1, k, l ++ [(v, [])], _, cap5, by have := HLI.out; omega, by simp, by first | go_num | (have := HLI.out; congr 1; omega), by simpa using ownT_setBelow HN8.out (by simp) _, HB9.out.setCell (p := ⟨w.heap.size + 3, 1, none⟩) (Nat.le_add_right _ _) _, (heap_setCell_other w8 _ _ _ (by simp)).trans H09.out, (heap_setCell_other w8 _ _ _ (by simp)).trans H19.out, (heap_setCell_other w8 _ _ _ (by simp)).trans H29.out, (by simpa using heap_setCell_same w8 (w.heap.size + 3) 1 _ _ _ H39.out), by rw [HLI.out]; exact HRE3.out⟩
              case measure => simp [intOf]; have := HLI.out; omega
        · rw [if_neg hvl] at HRE4
          simp only at HRE4
          subst HRE4
          have hrr := HRR.out
          simp only [finX] at hrr
          subst hrr
          have dv : (bs.length : Int) ≤ (v : Int) := by omega
          clear hvl
          rcases hout with ho1 | ho1
          · have d1 : ¬ (rva : Int) ≤ (v : Int) := by omega
            clear ho1
            have HN1 := Lib.hid ((HA.out.block (w.heap.size + 1) (lt_of_row' H1.out)).trans H1.out)
            have HN2 := Lib.hid ((HA.out.block (w.heap.size + 2) (lt_of_row' H2.out)).trans H2.out)
            have HNB := Lib.hid (HB.out.trans (HA.out.mono HB.out.size))
            have z0 : w1.cell? ⟨w.heap.size + 2, 0, none⟩ = some (.int .i64 0) := by rw [cell_of_row _ _ _ _ _ _ HN2.out]; rfl
            have z1 : w1.cell? ⟨w.heap.size + 2, 1, none⟩ = some (.slice none 0 0) := by rw [cell_of_row _ _ _ _ _ _ HN2.out]; rfl
            have z2 : w1.cell? ⟨w.heap.size + 2, 2, none⟩ = some (.slice none 0 0) := by rw [cell_of_row _ _ _ _ _ _ HN2.out]; rfl
            obtain ⟨w9, hw9⟩ : ∃ w9, w1.setRow (w.heap.size + 1) #[.int .i64 0, .slice none 0 0, .slice none 0 0] = w9 := ⟨_, rfl⟩
            have HE9 := Lib.hid hw9
            have HR9 := Lib.hid (show w9.heap[w.heap.size + 1]? = some (.cells #[.int .i64 0, .slice none 0 0, .slice none 0 0] 32 (0, 0)) from by rw [← hw9]; exact setRow_heap _ _ _ _ _ _ HN1.out)
            have HB9 := Lib.hid (show Below w.heap.size w w9 from by rw [← hw9]; exact below_setRow HNB.out (Nat.le_succ _) _)
            have k0 : w9.cell? ⟨w.heap.size + 1, 0, none⟩ = some (.int .i64 0) := by rw [cell_of_row _ _ _ _ _ _ HR9.out]; rfl
            have k1 : w9.cell? ⟨w.heap.size + 1, 1, none⟩ = some (.slice none 0 0) := by rw [cell_of_row _ _ _ _ _ _ HR9.out]; rfl
            have k2 : w9.cell? ⟨w.heap.size + 1, 2, none⟩ = some (.slice none 0 0) := by rw [cell_of_row _ _ _ _ _ _ HR9.out]; rfl
            clear hw9
            go_upto_region 24 with (fail)
            go_wp2_with (first | (refine wpList_store_row rfl 32 _ _ rfl (w.heap.size + 1) #[.int .i64 0, .slice none 0 0, .slice none 0 0] rfl rfl 32 #[.int .i64 0, .slice none 0 0, .slice none 0 0] HN1.out expInfo rfl expOne2 ?_; refine (congrArg _ HE9.out).mpr ?_) | fail)
            refine bodyPost_ret (v := .tuple #[.agg #[.int .i64 0, .slice none 0 0, .slice none 0 0], .int .i64 11]) (by simp [results, Try.results16, go_sem, k0, k1, k2]) rfl ⟨?_, HB9.out⟩
            exact rfl
          · by_cases hge : v < rva
            · have d1 : ¬ (rva : Int) ≤ (v : Int) := by omega
              clear ho1 hge
              have HN1 := Lib.hid ((HA.out.block (w.heap.size + 1) (lt_of_row' H1.out)).trans H1.out)
              have HN2 := Lib.hid ((HA.out.block (w.heap.size + 2) (lt_of_row' H2.out)).trans H2.out)
              have HNB := Lib.hid (HB.out.trans (HA.out.mono HB.out.size))
              have z0 : w1.cell? ⟨w.heap.size + 2, 0, none⟩ = some (.int .i64 0) := by rw [cell_of_row _ _ _ _ _ _ HN2.out]; rfl
              have z1 : w1.cell? ⟨w.heap.size + 2, 1, none⟩ = some (.slice none 0 0) := by rw [cell_of_row _ _ _ _ _ _ HN2.out]; rfl
              have z2 : w1.cell? ⟨w.heap.size + 2, 2, none⟩ = some (.slice none 0 0) := by rw [cell_of_row _ _ _ _ _ _ HN2.out]; rfl
              obtain ⟨w9, hw9⟩ : ∃ w9, w1.setRow (w.heap.size + 1) #[.int .i64 0, .slice none 0 0, .slice none 0 0] = w9 := ⟨_, rfl⟩
              have HE9 := Lib.hid hw9
              have HR9 := Lib.hid (show w9.heap[w.heap.size + 1]? = some (.cells #[.int .i64 0, .slice none 0 0, .slice none 0 0] 32 (0, 0)) from by rw [← hw9]; exact setRow_heap _ _ _ _ _ _ HN1.out)
              have HB9 := Lib.hid (show Below w.heap.size w w9 from by rw [← hw9]; exact below_setRow HNB.out (Nat.le_succ _) _)
              have k0 : w9.cell? ⟨w.heap.size + 1, 0, none⟩ = some (.int .i64 0) := by rw [cell_of_row _ _ _ _ _ _ HR9.out]; rfl
              have k1 : w9.cell? ⟨w.heap.size + 1, 1, none⟩ = some (.slice none 0 0) := by rw [cell_of_row _ _ _ _ _ _ HR9.out]; rfl
              have k2 : w9.cell? ⟨w.heap.size + 1, 2, none⟩ = some (.slice none 0 0) := by rw [cell_of_row _ _ _ _ _ _ HR9.out]; rfl
              clear hw9
              go_upto_region 24 with (fail)
              go_wp2_with (first | (refine wpList_store_row rfl 32 _ _ rfl (w.heap.size + 1) #[.int .i64 0, .slice none 0 0, .slice none 0 0] rfl rfl 32 #[.int .i64 0, .slice none 0 0, .slice none 0 0] HN1.out expInfo rfl expOne2 ?_; refine (congrArg _ HE9.out).mpr ?_) | fail)
              refine bodyPost_ret (v := .tuple #[.agg #[.int .i64 0, .slice none 0 0, .slice none 0 0], .int .i64 11]) (by simp [results, Try.results16, go_sem, k0, k1, k2]) rfl ⟨?_, HB9.out⟩
              exact rfl
            · have d1 : (rva : Int) ≤ (v : Int) := by omega
              have d2 : ¬ (v : Int) - (rva : Int) < (size : Int) := by omega
              clear ho1 hge
              have HN1 := Lib.hid ((HA.out.block (w.heap.size + 1) (lt_of_row' H1.out)).trans H1.out)
              have HN2 := Lib.hid ((HA.out.block (w.heap.size + 2) (lt_of_row' H2.out)).trans H2.out)
              have HNB := Lib.hid (HB.out.trans (HA.out.mono HB.out.size))
              have z0 : w1.cell? ⟨w.heap.size + 2, 0, none⟩ = some (.int .i64 0) := by rw [cell_of_row _ _ _ _ _ _ HN2.out]; rfl
              have z1 : w1.cell? ⟨w.heap.size + 2, 1, none⟩ = some (.slice none 0 0) := by rw [cell_of_row _ _ _ _ _ _ HN2.out]; rfl
              have z2 : w1.cell? ⟨w.heap.size + 2, 2, none⟩ = some (.slice none 0 0) := by rw [cell_of_row _ _ _ _ _ _ HN2.out]; rfl
              obtain ⟨w9, hw9⟩ : ∃ w9, w1.setRow (w.heap.size + 1) #[.int .i64 0, .slice none 0 0, .slice none 0 0] = w9 := ⟨_, rfl⟩
              have HE9 := Lib.hid hw9
              have HR9 := Lib.hid (show w9.heap[w.heap.size + 1]? = some (.cells #[.int .i64 0, .slice none 0 0, .slice none 0 0] 32 (0, 0)) from by rw [← hw9]; exact setRow_heap _ _ _ _ _ _ HN1.out)
              have HB9 := Lib.hid (show Below w.heap.size w w9 from by rw [← hw9]; exact below_setRow HNB.out (Nat.le_succ _) _)
              have k0 : w9.cell? ⟨w.heap.size + 1, 0, none⟩ = some (.int .i64 0) := by rw [cell_of_row _ _ _ _ _ _ HR9.out]; rfl
              have k1 : w9.cell? ⟨w.heap.size + 1, 1, none⟩ = some (.slice none 0 0) := by rw [cell_of_row _ _ _ _ _ _ HR9.out]; rfl
              have k2 : w9.cell? ⟨w.heap.size + 1, 2, none⟩ = some (.slice none 0 0) := by rw [cell_of_row _ _ _ _ _ _ HR9.out]; rfl
              clear hw9
              go_upto_region 24 with (fail)
              go_wp2_with (first | (refine wpList_store_row rfl 32 _ _ rfl (w.heap.size + 1) #[.int .i64 0, .slice none 0 0, .slice none 0 0] rfl rfl 32 #[.int .i64 0, .slice none 0 0, .slice none 0 0] HN1.out expInfo rfl expOne2 ?_; refine (congrArg _ HE9.out).mpr ?_) | fail)
              refine bodyPost_ret (v := .tuple #[.agg #[.int .i64 0, .slice none 0 0, .slice none 0 0], .int .i64 11]) (by simp [results, Try.results16, go_sem, k0, k1, k2]) rfl ⟨?_, HB9.out⟩
              exact rfl
      · rw [if_neg hout] at HRE4
        have d1 : (rva : Int) ≤ (v : Int) := by omega
        have d2 : (v : Int) - (rva : Int) < (size : Int) := by omega
        clear hout
        go_wp2_with (first
            | fail)
        refine (HTX.out _).mono ?_
        rintro e w' ⟨rfl, rfl⟩
        rcases htx : textL bs v 64 with _ | t
        · rw [htx] at HRE4
          simp only at HRE4 ⊢
          subst HRE4
          have hrr := HRR.out
          simp only [finX] at hrr
          subst hrr
          have HN1 := Lib.hid ((HA.out.block (w.heap.size + 1) (lt_of_row' H1.out)).trans H1.out)
          have HN2 := Lib.hid ((HA.out.block (w.heap.size + 2) (lt_of_row' H2.out)).trans H2.out)
          have HNB := Lib.hid (HB.out.trans (HA.out.mono HB.out.size))
          have z0 : w1.cell? ⟨w.heap.size + 2, 0, none⟩ = some (.int .i64 0) := by rw [cell_of_row _ _ _ _ _ _ HN2.out]; rfl
          have z1 : w1.cell? ⟨w.heap.size + 2, 1, none⟩ = some (.slice none 0 0) := by rw [cell_of_row _ _ _ _ _ _ HN2.out]; rfl
          have z2 : w1.cell? ⟨w.heap.size + 2, 2, none⟩ = some (.slice none 0 0) := by rw [cell_of_row _ _ _ _ _ _ HN2.out]; rfl
          obtain ⟨w9, hw9⟩ : ∃ w9, w1.setRow (w.heap.size + 1) #[.int .i64 0, .slice none 0 0, .slice none 0 0] = w9 := ⟨_, rfl⟩
          have HE9 := Lib.hid hw9
          have HR9 := Lib.hid (show w9.heap[w.heap.size + 1]? = some (.cells #[.int .i64 0, .slice none 0 0, .slice none 0 0] 32 (0, 0)) from by rw [← hw9]; exact setRow_heap _ _ _ _ _ _ HN1.out)
          have HB9 := Lib.hid (show Below w.heap.size w w9 from by rw [← hw9]; exact below_setRow HNB.out (Nat.le_succ _) _)
          have k0 : w9.cell? ⟨w.heap.size + 1, 0, none⟩ = some (.int .i64 0) := by rw [cell_of_row _ _ _ _ _ _ HR9.out]; rfl
          have k1 : w9.cell? ⟨w.heap.size + 1, 1, none⟩ = some (.slice none 0 0) := by rw [cell_of_row _ _ _ _ _ _ HR9.out]; rfl
          have k2 : w9.cell? ⟨w.heap.size + 1, 2, none⟩ = some (.slice none 0 0) := by rw [cell_of_row _ _ _ _ _ _ HR9.out]; rfl
          clear hw9
          go_wp2_with (first | (refine wpList_store_row rfl 32 _ _ rfl (w.heap.size + 1) #[.int .i64 0, .slice none 0 0, .slice none 0 0] rfl rfl 32 #[.int .i64 0, .slice none 0 0, .slice none 0 0] HN1.out expInfo rfl expOne2 ?_; refine (congrArg _ HE9.out).mpr ?_) | fail)
          refine bodyPost_ret (v := .tuple #[.agg #[.int .i64 0, .slice none 0 0, .slice none 0 0], .int .i64 11]) (by simp [results, Try.results16, go_sem, k0, k1, k2]) rfl ⟨?_, HB9.out⟩
          exact rfl
        · rw [htx] at HRE4
          have hlt' := textL_lb' HLB.out htx
          have HSP := Lib.hid (fun W => rsplit_any t W hlt'.1 (by have := hlt'.2; omega))
          simp only at HRE4 ⊢
          clear hlt' htx HTX
          go_wp2_with fail
          refine (HSP.out _).mono ?_
          rintro e w2 ⟨⟨D, SS, OO, BB, rfl⟩, hw2⟩
          obtain ⟨w3, hw3⟩ : ∃ w3, w2.alloc (.cells #[.string D, .string SS, .int .i64 OO, .bool BB] 95) = w3 := ⟨_, rfl⟩
          have HE3 := Lib.hid hw3
          have hA2 : Below wr.heap.size wr w2 := HA.out.trans (hw2.mono HA.out.size)
          have HA3 := Lib.hid (show Below wr.heap.size wr w3 from by rw [← hw3]; exact hA2.alloc hA2.size _)
          have hw23 : Below w1.heap.size w1 w3 := by rw [← hw3]; exact hw2.alloc hw2.size _
          have HT3 := Lib.hid ((hw23.block wr.heap.size (lt_of_row' HT.out)).trans HT.out)
          clear hw3 hA2 hw23 hw2 t0 r0 r1
          go_upto_region 20 with (fail)
          refine (congrArg _ HE3.out).mpr ?_
          by_cases hso : splitOk t = true
          · rw [if_pos hso] at HRE4
            rw [hso]
            have HRE3 := Lib.hid HRE4
            obtain ⟨w4, hw4⟩ : ∃ w4, w3.setRow wr.heap.size #[.int .i64 0, .string (txt t)] = w4 := ⟨_, rfl⟩
            have HE4 := Lib.hid hw4
            have HA4 := Lib.hid (show Below wr.heap.size wr w4 from by rw [← hw4]; exact below_setRow HA3.out (Nat.le_refl _) _)
            have HT4 := Lib.hid (show w4.heap[wr.heap.size]? = some (.cells #[.int .i64 0, .string (txt t)] 37 (0, 0)) from by rw [← hw4]; exact setRow_heap _ _ _ _ _ _ HT3.out)
            clear hw4 HRE4 hso
            have e3f : w4.cell? ⟨w.heap.size + 3, 1, none⟩ = some (.slice A' l.length c') := by rw [cell_of_row _ _ _ _ _ _ ((HA4.out.block _ (lt_of_row' H3.out)).trans H3.out)]; rfl
            have t0 : w4.cell? ⟨wr.heap.size, 0, none⟩ = some (.int .i64 0) := by rw [cell_of_row _ _ _ _ _ _ HT4.out]; rfl
            have t1 : w4.cell? ⟨wr.heap.size, 1, none⟩ = some (.string (txt t)) := by rw [cell_of_row _ _ _ _ _ _ HT4.out]; rfl
            have HA1 := Lib.hid ((HO.out.below HA4.out).alloc (.cells #[.int .i64 0, .string (txt t)] 37))
            have HY1 := Lib.hid (funcCells 0 t w4)
            have HB7 := Lib.hid (HB.out.trans (HA4.out.mono HB.out.size))
            have HB8 := Lib.hid (HB7.out.alloc HB7.out.size (.cells #[.int .i64 0, .string (txt t)] 37))
            have hAB : Below wr.heap.size wr (w4.alloc (.cells #[.int .i64 0, .string (txt t)] 37)) := HA4.out.alloc HA4.out.size _
            have H08 := Lib.hid ((hAB.block w.heap.size (lt_of_row' H0.out)).trans H0.out)
            have H18 := Lib.hid ((hAB.block (w.heap.size + 1) (lt_of_row' H1.out)).trans H1.out)
            have H28 := Lib.hid ((hAB.block (w.heap.size + 2) (lt_of_row' H2.out)).trans H2.out)
            have H38 := Lib.hid ((hAB.block (w.heap.size + 3) (lt_of_row' H3.out)).trans H3.out)
            have HG3 := Lib.hid (show w.heap.size + 4 ≤ (w4.alloc (.cells #[.int .i64 0, .string (txt t)] 37)).heap.size from lt_of_row' H38.out)
            have HG4 := Lib.hid (show l.length + 1 ≤ maxLen from by rw [HLI.out]; unfold maxLen; omega)
            have HG5 := Lib.hid (show (l.length + 1) * 24 ≤ 140737488355328 from by rw [HLI.out]; omega)
            have hll : l.length < 256 := by have := HLI.out; omega
            have hll2 : l.length + 1 ≤ b1 := by have := HLI.out; omega
            clear hAB
            go_wp2_with (first
                | (refine wpList_store_row rfl 37 _ _ rfl wr.heap.size #[.int .i64 0, .string (txt t)] rfl rfl 37 #[.int .i64 v, .string (txt [])] HT3.out fnInfo rfl fnOne ?_; refine (congrArg _ HE4.out).mpr ?_)
                | (at_builtin; refine wpList_appT rfl (.tmp 181) (.tmp 183) 29 rfl (w.heap.size + 4) 37 _ 24 rfl infoFunc rfl (by omega) gC_len gC_one _ l rfl HA1.out w4.heap.size 1 rfl (0, t) HY1.out HG4.out HG5.out HG3.out ?_; intro g5 cap5 w8 hown5 hg5 hat5
                   have HG6 := Lib.hid hg5
                   have HN8 := Lib.hid hown5
                   have H39 := Lib.hid ((hg5.block (w.heap.size + 3) (lt_of_row' H38.out) (fun h => by have := (HA1.out.lt _ h.symm).1; omega)).trans H38.out)
                   have hc8 : w8.cell? ⟨w.heap.size + 3, 1, none⟩ = some (.slice A' l.length c') := by rw [cell_of_row _ _ _ _ _ _ H39.out]; rfl
                   have hf8 : w8.frozen? ⟨w.heap.size + 3, 1, none⟩ = false := frozen_of_row _ _ _ _ _ H39.out
                   clear hat5 hg5 hown5)
                | fail)
            have HB9 := Lib.hid (HA1.out.grew HB8.out (by omega) HB8.out.size HG6.out)
            have H09 := Lib.hid ((HG6.out.block w.heap.size (lt_of_row' H08.out) (fun h => by have := (HA1.out.lt _ h.symm).1; omega)).trans H08.out)
            have H19 := Lib.hid ((HG6.out.block (w.heap.size + 1) (lt_of_row' H18.out) (fun h => by have := (HA1.out.lt _ h.symm).1; omega)).trans H18.out)
            have H29 := Lib.hid ((HG6.out.block (w.heap.size + 2) (lt_of_row' H28.out) (fun h => by have := (HA1.out.lt _ h.symm).1; omega)).trans H28.out)
            go_roundw
            case rel => exact ⟨l.length + 1, k, l ++ [(0, t)], _, cap5, by have := HLI.out; omega, by simp, by first | go_num | (have := HLI.out; congr 1; omega), by simpa using ownT_setBelow HN8.out (by simp) _, HB9.out.setCell (p := ⟨w.heap.size + 3, 1, none⟩) (Nat.le_add_right _ _) _, (heap_setCell_other w8 _ _ _ (by simp)).trans H09.out, (heap_setCell_other w8 _ _ _ (by simp)).trans H19.out, (heap_setCell_other w8 _ _ _ (by simp)).trans H29.out, (by simpa using heap_setCell_same w8 (w.heap.size + 3) 1 _ _ _ H39.out), by rw [HLI.out]; exact HRE3.out⟩
            case measure => simp [intOf]; have := HLI.out; omega
          · rw [if_neg hso] at HRE4
            rw [show splitOk t = false by simpa using hso]
            simp only at HRE4
            subst HRE4
            have hrr := HRR.out
            simp only [finX] at hrr
            subst hrr
            clear hso
            have HN1 := Lib.hid ((HA3.out.block (w.heap.size + 1) (lt_of_row' H1.out)).trans H1.out)
            have HN2 := Lib.hid ((HA3.out.block (w.heap.size + 2) (lt_of_row' H2.out)).trans H2.out)
            have HNB := Lib.hid (HB.out.trans (HA3.out.mono HB.out.size))
            have z0 : w3.cell? ⟨w.heap.size + 2, 0, none⟩ = some (.int .i64 0) := by rw [cell_of_row _ _ _ _ _ _ HN2.out]; rfl
            have z1 : w3.cell? ⟨w.heap.size + 2, 1, none⟩ = some (.slice none 0 0) := by rw [cell_of_row _ _ _ _ _ _ HN2.out]; rfl
            have z2 : w3.cell? ⟨w.heap.size + 2, 2, none⟩ = some (.slice none 0 0) := by rw [cell_of_row _ _ _ _ _ _ HN2.out]; rfl
            obtain ⟨w9, hw9⟩ : ∃ w9, w3.setRow (w.heap.size + 1) #[.int .i64 0, .slice none 0 0, .slice none 0 0] = w9 := ⟨_, rfl⟩
            have HE9 := Lib.hid hw9
            have HR9 := Lib.hid (show w9.heap[w.heap.size + 1]? = some (.cells #[.int .i64 0, .slice none 0 0, .slice none 0 0] 32 (0, 0)) from by rw [← hw9]; exact setRow_heap _ _ _ _ _ _ HN1.out)
            have HB9 := Lib.hid (show Below w.heap.size w w9 from by rw [← hw9]; exact below_setRow HNB.out (Nat.le_succ _) _)
            have k0 : w9.cell? ⟨w.heap.size + 1, 0, none⟩ = some (.int .i64 0) := by rw [cell_of_row _ _ _ _ _ _ HR9.out]; rfl
            have k1 : w9.cell? ⟨w.heap.size + 1, 1, none⟩ = some (.slice none 0 0) := by rw [cell_of_row _ _ _ _ _ _ HR9.out]; rfl
            have k2 : w9.cell? ⟨w.heap.size + 1, 2, none⟩ = some (.slice none 0 0) := by rw [cell_of_row _ _ _ _ _ _ HR9.out]; rfl
            clear hw9
            go_upto_region 21 with (fail)
            go_wp2_with (first | (refine wpList_store_row rfl 32 _ _ rfl (w.heap.size + 1) #[.int .i64 0, .slice none 0 0, .slice none 0 0] rfl rfl 32 #[.int .i64 0, .slice none 0 0, .slice none 0 0] HN1.out expInfo rfl expOne2 ?_; refine (congrArg _ HE9.out).mpr ?_) | fail)
            refine bodyPost_ret (v := .tuple #[.agg #[.int .i64 0, .slice none 0 0, .slice none 0 0], .int .i64 11]) (by simp [results, Try.results16, go_sem, k0, k1, k2]) rfl ⟨?_, HB9.out⟩
            exact rfl
    · obtain rfl : k = 0 := by omega
      have hre := HR.out
      simp only [funcsL] at hre
      subst hre
      go_wp2_with fail
      refine HK2.out _ _ ?_
      exact rexp_tail bs b0 b1 b2 b4 b5 w wr l A' c' _ RR HLB hlen hn2 HIN (Lib.hid rfl) (Lib.hid (by rw [HRR.out]; unfold finX; cases namesL bs b4 b5 b1 b2 0 [] [] <;> rfl)) HB H1 H2 H3 HO _ ⟨rfl, rfl, rfl⟩
end Go.Proofs.Ytbjabncefhgefaa
namespace Go.Proofs.Ytbjabncefhgefaa
open Go.ChangeShapes Go.WideShapes Go.ChangeAt Go.RowKit
set_option linter.unusedVariables false
set_option linter.unusedSimpArgs false

theorem rin_any (long at' n : Nat) (w : World) (hl : long ≤ 9223372036854775807) :
    Calls Try.prog 33 #[.int .i64 long, .int .i64 at', .int .i64 n] w fun e w' => e = .returned (.bool (decide (at' + n ≤ long))) ∧ w = w' := by
  by_cases c : at' + n ≤ long
  · rw [decide_eq_true c]; exact in_yes long at' n w (by omega) (by omega) (by omega) (by omega)
  · rw [decide_eq_false c]; exact in_no long at' n w (by omega) (by omega) (by omega)

set_option maxRecDepth 100000 in
set_option maxHeartbeats 8000000 in
theorem rexp_mid (bs : List Nat) (rva size b0 b1 b2 b3 b4 b5 : Nat) (w wr : World) (RR : Option ExpV)
    (HLB : Hid (Lb bs)) (hlen : bs.length ≤ 1000000) (hr : rva ≤ 9223372036854775807) (hz : size ≤ 9223372036854775807) (g0 : b0 < 4294967296) (g1 : b1 < 4294967296) (g2 : b2 < 4294967296) (g3 : b3 < 4294967296) (g4 : b4 < 4294967296) (g5 : b5 < 4294967296)
    (HRR : Hid (RR = if (Rw.mk b0 b1 b2 b3 b4 b5).ok bs.length = true then finX bs b0 b1 b2 b4 b5 (funcsL bs rva size b3 b1 0 []) else none))
    (HB : Hid (Below w.heap.size w wr)) (H0 : Hid (wr.heap[w.heap.size]? = some (.cells #[.int .i64 rva, .int .i64 size] 26 (0, 0)))) (H1 : Hid (wr.heap[w.heap.size + 1]? = some (.cells #[.int .i64 0, .slice none 0 0, .slice none 0 0] 32 (0, 0)))) (H2 : Hid (wr.heap[w.heap.size + 2]? = some (.cells #[.int .i64 0, .slice none 0 0, .slice none 0 0] 32 (0, 0))))
    (H3 : Hid (wr.heap[w.heap.size + 3]? = some (.cells #[.int .i64 b0, .slice none 0 0, .slice none 0 0] 32 (0, 0)))) (a : Act)
    (ha : Has 244 [0, 3, 4, 6, 7, 8, 9, 10, 11, 12] [.string (txt bs), .pointer (some ⟨w.heap.size, 0, none⟩), .pointer (some ⟨w.heap.size + 1, 0, none⟩), .pointer (some ⟨w.heap.size + 2, 0, none⟩), .pointer (some ⟨w.heap.size + 3, 0, none⟩), .int .i64 b1, .int .i64 b2, .int .i64 b3, .int .i64 b4, .int .i64 b5] a) : (dropS 7 bodyX).wp Try.prog (QX w RR) a wr := by
  obtain ⟨u, rfl⟩ := xopen_0_3_4_6_7_8_9_10_11_12 ha
  clear ha
  conv => arg 2; whnf
  have hsz : (txt bs).size = bs.length := txt_size bs
  have e0 : wr.cell? ⟨w.heap.size + 3, 0, none⟩ = some (.int .i64 b0) := by rw [cell_of_row _ _ _ _ _ _ H3.out]; rfl
  go_upto_region 9 with (fail)
  rename_i K2 hK2 K1 hK1
  have HK2 := Lib.hid hK2
  clear hK2
  have HRZ := Lib.hid (And.intro hr hz)
  clear hr hz
  by_cases c0 : 65535 < b0
  · have hbad : (Rw.mk b0 b1 b2 b3 b4 b5).ok bs.length = false := by
      rw [Bool.eq_false_iff]
      intro q
      simp only [Rw.ok, inL, Bool.and_eq_true, Bool.or_eq_true, decide_eq_true_eq] at q
      omega
    have hrr := HRR.out
    rw [hbad, if_neg (by simp)] at hrr
    subst hrr
    clear hbad
    have d0 : (65535 : Int) < (b0 : Int) := by omega
    have z0 : wr.cell? ⟨w.heap.size + 2, 0, none⟩ = some (.int .i64 0) := by rw [cell_of_row _ _ _ _ _ _ H2.out]; rfl
    have z1 : wr.cell? ⟨w.heap.size + 2, 1, none⟩ = some (.slice none 0 0) := by rw [cell_of_row _ _ _ _ _ _ H2.out]; rfl
    have z2 : wr.cell? ⟨w.heap.size + 2, 2, none⟩ = some (.slice none 0 0) := by rw [cell_of_row _ _ _ _ _ _ H2.out]; rfl
    obtain ⟨w9, hw9⟩ : ∃ w9, wr.setRow (w.heap.size + 1) #[.int .i64 0, .slice none 0 0, .slice none 0 0] = w9 := ⟨_, rfl⟩
    have HE9 := Lib.hid hw9
    have HR9 := Lib.hid (show w9.heap[w.heap.size + 1]? = some (.cells #[.int .i64 0, .slice none 0 0, .slice none 0 0] 32 (0, 0)) from by rw [← hw9]; exact setRow_heap _ _ _ _ _ _ H1.out)
    have HB9 := Lib.hid (show Below w.heap.size w w9 from by rw [← hw9]; exact below_setRow HB.out (Nat.le_succ _) _)
    have k0 : w9.cell? ⟨w.heap.size + 1, 0, none⟩ = some (.int .i64 0) := by rw [cell_of_row _ _ _ _ _ _ HR9.out]; rfl
    have k1 : w9.cell? ⟨w.heap.size + 1, 1, none⟩ = some (.slice none 0 0) := by rw [cell_of_row _ _ _ _ _ _ HR9.out]; rfl
    have k2 : w9.cell? ⟨w.heap.size + 1, 2, none⟩ = some (.slice none 0 0) := by rw [cell_of_row _ _ _ _ _ _ HR9.out]; rfl
    clear hw9
    go_upto_region 10 with (fail)
    go_wp2_with (first | (refine wpList_store_row rfl 32 _ _ rfl (w.heap.size + 1) #[.int .i64 0, .slice none 0 0, .slice none 0 0] rfl rfl 32 #[.int .i64 0, .slice none 0 0, .slice none 0 0] H1.out expInfo rfl expOne2 ?_; refine (congrArg _ HE9.out).mpr ?_) | fail)
    refine bodyPost_ret (v := .tuple #[.agg #[.int .i64 0, .slice none 0 0, .slice none 0 0], .int .i64 11]) (by simp [results, Try.results16, go_sem, k0, k1, k2]) rfl ⟨?_, HB9.out⟩
    exact rfl
  have d0 : ¬ (65535 : Int) < (b0 : Int) := by omega
  by_cases c1 : 256 < b1
  · have hbad : (Rw.mk b0 b1 b2 b3 b4 b5).ok bs.length = false := by
      rw [Bool.eq_false_iff]
      intro q
      simp only [Rw.ok, inL, Bool.and_eq_true, Bool.or_eq_true, decide_eq_true_eq] at q
      omega
    have hrr := HRR.out
    rw [hbad, if_neg (by simp)] at hrr
    subst hrr
    clear hbad
    have d1 : (256 : Int) < (b1 : Int) := by omega
    have z0 : wr.cell? ⟨w.heap.size + 2, 0, none⟩ = some (.int .i64 0) := by rw [cell_of_row _ _ _ _ _ _ H2.out]; rfl
    have z1 : wr.cell? ⟨w.heap.size + 2, 1, none⟩ = some (.slice none 0 0) := by rw [cell_of_row _ _ _ _ _ _ H2.out]; rfl
    have z2 : wr.cell? ⟨w.heap.size + 2, 2, none⟩ = some (.slice none 0 0) := by rw [cell_of_row _ _ _ _ _ _ H2.out]; rfl
    obtain ⟨w9, hw9⟩ : ∃ w9, wr.setRow (w.heap.size + 1) #[.int .i64 0, .slice none 0 0, .slice none 0 0] = w9 := ⟨_, rfl⟩
    have HE9 := Lib.hid hw9
    have HR9 := Lib.hid (show w9.heap[w.heap.size + 1]? = some (.cells #[.int .i64 0, .slice none 0 0, .slice none 0 0] 32 (0, 0)) from by rw [← hw9]; exact setRow_heap _ _ _ _ _ _ H1.out)
    have HB9 := Lib.hid (show Below w.heap.size w w9 from by rw [← hw9]; exact below_setRow HB.out (Nat.le_succ _) _)
    have k0 : w9.cell? ⟨w.heap.size + 1, 0, none⟩ = some (.int .i64 0) := by rw [cell_of_row _ _ _ _ _ _ HR9.out]; rfl
    have k1 : w9.cell? ⟨w.heap.size + 1, 1, none⟩ = some (.slice none 0 0) := by rw [cell_of_row _ _ _ _ _ _ HR9.out]; rfl
    have k2 : w9.cell? ⟨w.heap.size + 1, 2, none⟩ = some (.slice none 0 0) := by rw [cell_of_row _ _ _ _ _ _ HR9.out]; rfl
    clear hw9
    go_upto_region 10 with (fail)
    go_wp2_with (first | (refine wpList_store_row rfl 32 _ _ rfl (w.heap.size + 1) #[.int .i64 0, .slice none 0 0, .slice none 0 0] rfl rfl 32 #[.int .i64 0, .slice none 0 0, .slice none 0 0] H1.out expInfo rfl expOne2 ?_; refine (congrArg _ HE9.out).mpr ?_) | fail)
    refine bodyPost_ret (v := .tuple #[.agg #[.int .i64 0, .slice none 0 0, .slice none 0 0], .int .i64 11]) (by simp [results, Try.results16, go_sem, k0, k1, k2]) rfl ⟨?_, HB9.out⟩
    exact rfl
  have d1 : ¬ (256 : Int) < (b1 : Int) := by omega
  by_cases c2 : 256 < b2
  · have hbad : (Rw.mk b0 b1 b2 b3 b4 b5).ok bs.length = false := by
      rw [Bool.eq_false_iff]
      intro q
      simp only [Rw.ok, inL, Bool.and_eq_true, Bool.or_eq_true, decide_eq_true_eq] at q
      omega
    have hrr := HRR.out
    rw [hbad, if_neg (by simp)] at hrr
    subst hrr
    clear hbad
    have d2 : (256 : Int) < (b2 : Int) := by omega
    have z0 : wr.cell? ⟨w.heap.size + 2, 0, none⟩ = some (.int .i64 0) := by rw [cell_of_row _ _ _ _ _ _ H2.out]; rfl
    have z1 : wr.cell? ⟨w.heap.size + 2, 1, none⟩ = some (.slice none 0 0) := by rw [cell_of_row _ _ _ _ _ _ H2.out]; rfl
    have z2 : wr.cell? ⟨w.heap.size + 2, 2, none⟩ = some (.slice none 0 0) := by rw [cell_of_row _ _ _ _ _ _ H2.out]; rfl
    obtain ⟨w9, hw9⟩ : ∃ w9, wr.setRow (w.heap.size + 1) #[.int .i64 0, .slice none 0 0, .slice none 0 0] = w9 := ⟨_, rfl⟩
    have HE9 := Lib.hid hw9
    have HR9 := Lib.hid (show w9.heap[w.heap.size + 1]? = some (.cells #[.int .i64 0, .slice none 0 0, .slice none 0 0] 32 (0, 0)) from by rw [← hw9]; exact setRow_heap _ _ _ _ _ _ H1.out)
    have HB9 := Lib.hid (show Below w.heap.size w w9 from by rw [← hw9]; exact below_setRow HB.out (Nat.le_succ _) _)
    have k0 : w9.cell? ⟨w.heap.size + 1, 0, none⟩ = some (.int .i64 0) := by rw [cell_of_row _ _ _ _ _ _ HR9.out]; rfl
    have k1 : w9.cell? ⟨w.heap.size + 1, 1, none⟩ = some (.slice none 0 0) := by rw [cell_of_row _ _ _ _ _ _ HR9.out]; rfl
    have k2 : w9.cell? ⟨w.heap.size + 1, 2, none⟩ = some (.slice none 0 0) := by rw [cell_of_row _ _ _ _ _ _ HR9.out]; rfl
    clear hw9
    go_upto_region 10 with (fail)
    go_wp2_with (first | (refine wpList_store_row rfl 32 _ _ rfl (w.heap.size + 1) #[.int .i64 0, .slice none 0 0, .slice none 0 0] rfl rfl 32 #[.int .i64 0, .slice none 0 0, .slice none 0 0] H1.out expInfo rfl expOne2 ?_; refine (congrArg _ HE9.out).mpr ?_) | fail)
    refine bodyPost_ret (v := .tuple #[.agg #[.int .i64 0, .slice none 0 0, .slice none 0 0], .int .i64 11]) (by simp [results, Try.results16, go_sem, k0, k1, k2]) rfl ⟨?_, HB9.out⟩
    exact rfl
  have d2 : ¬ (256 : Int) < (b2 : Int) := by omega
  by_cases c3 : 65536 < b0 + b1
  · have hbad : (Rw.mk b0 b1 b2 b3 b4 b5).ok bs.length = false := by
      rw [Bool.eq_false_iff]
      intro q
      simp only [Rw.ok, inL, Bool.and_eq_true, Bool.or_eq_true, decide_eq_true_eq] at q
      omega
    have hrr := HRR.out
    rw [hbad, if_neg (by simp)] at hrr
    subst hrr
    clear hbad
    have d3 : (65536 : Int) < (b0 : Int) + (b1 : Int) := by omega
    have z0 : wr.cell? ⟨w.heap.size + 2, 0, none⟩ = some (.int .i64 0) := by rw [cell_of_row _ _ _ _ _ _ H2.out]; rfl
    have z1 : wr.cell? ⟨w.heap.size + 2, 1, none⟩ = some (.slice none 0 0) := by rw [cell_of_row _ _ _ _ _ _ H2.out]; rfl
    have z2 : wr.cell? ⟨w.heap.size + 2, 2, none⟩ = some (.slice none 0 0) := by rw [cell_of_row _ _ _ _ _ _ H2.out]; rfl
    obtain ⟨w9, hw9⟩ : ∃ w9, wr.setRow (w.heap.size + 1) #[.int .i64 0, .slice none 0 0, .slice none 0 0] = w9 := ⟨_, rfl⟩
    have HE9 := Lib.hid hw9
    have HR9 := Lib.hid (show w9.heap[w.heap.size + 1]? = some (.cells #[.int .i64 0, .slice none 0 0, .slice none 0 0] 32 (0, 0)) from by rw [← hw9]; exact setRow_heap _ _ _ _ _ _ H1.out)
    have HB9 := Lib.hid (show Below w.heap.size w w9 from by rw [← hw9]; exact below_setRow HB.out (Nat.le_succ _) _)
    have k0 : w9.cell? ⟨w.heap.size + 1, 0, none⟩ = some (.int .i64 0) := by rw [cell_of_row _ _ _ _ _ _ HR9.out]; rfl
    have k1 : w9.cell? ⟨w.heap.size + 1, 1, none⟩ = some (.slice none 0 0) := by rw [cell_of_row _ _ _ _ _ _ HR9.out]; rfl
    have k2 : w9.cell? ⟨w.heap.size + 1, 2, none⟩ = some (.slice none 0 0) := by rw [cell_of_row _ _ _ _ _ _ HR9.out]; rfl
    clear hw9
    go_upto_region 10 with (fail)
    go_wp2_with (first | (refine wpList_store_row rfl 32 _ _ rfl (w.heap.size + 1) #[.int .i64 0, .slice none 0 0, .slice none 0 0] rfl rfl 32 #[.int .i64 0, .slice none 0 0, .slice none 0 0] H1.out expInfo rfl expOne2 ?_; refine (congrArg _ HE9.out).mpr ?_) | fail)
    refine bodyPost_ret (v := .tuple #[.agg #[.int .i64 0, .slice none 0 0, .slice none 0 0], .int .i64 11]) (by simp [results, Try.results16, go_sem, k0, k1, k2]) rfl ⟨?_, HB9.out⟩
    exact rfl
  have d3 : ¬ (65536 : Int) < (b0 : Int) + (b1 : Int) := by omega
  have HI := Lib.hid (fun (x y : Nat) W => rin_any bs.length x y W (by omega))
  obtain ⟨f4, hf4⟩ : ∃ q, 4 * b1 = q := ⟨_, rfl⟩
  obtain ⟨n4, hn4⟩ : ∃ q, 4 * b2 = q := ⟨_, rfl⟩
  obtain ⟨n2, hn2⟩ : ∃ q, 2 * b2 = q := ⟨_, rfl⟩
  have ef4 : (4 : Int) * (b1 : Int) = (f4 : Int) := by omega
  have en4 : (4 : Int) * (b2 : Int) = (n4 : Int) := by omega
  have en2 : (2 : Int) * (b2 : Int) = (n2 : Int) := by omega
  have wf4 : IntKind.i64.wrap (f4 : Int) = (f4 : Int) := by rw [IntKind.wrap_i64]; omega
  have wn4 : IntKind.i64.wrap (n4 : Int) = (n4 : Int) := by rw [IntKind.wrap_i64]; omega
  have wn2 : IntKind.i64.wrap (n2 : Int) = (n2 : Int) := by rw [IntKind.wrap_i64]; omega
  by_cases k1 : b1 = 0
  · have q1 : ¬ (0 : Int) < (b1 : Int) := by omega
    have HKA := Lib.hid k1
    clear k1
    by_cases k2 : b2 = 0
    · have q2 : ¬ (0 : Int) < (b2 : Int) := by omega
      have HKB := Lib.hid k2
      clear k2
      have hgood : (Rw.mk b0 b1 b2 b3 b4 b5).ok bs.length = true := by
        have := HKA.out
        have := HKB.out
        simp only [Rw.ok, inL, Bool.and_eq_true, Bool.or_eq_true, decide_eq_true_eq]
        omega
      have hrr := HRR.out
      rw [hgood, if_pos rfl] at hrr
      have HRR2 := Lib.hid hrr
      have hin1 := Lib.hid (show b1 = 0 ∨ b3 + 4 * b1 ≤ bs.length from by have := HKA.out; omega)
      have hin2 := Lib.hid (show b2 = 0 ∨ (b4 + 4 * b2 ≤ bs.length ∧ b5 + 2 * b2 ≤ bs.length) from by have := HKB.out; omega)
      clear hgood hrr
      go_wp2_with fail
      refine HK2.out _ _ ?_
      exact rexp_funcs bs rva size b0 b1 b2 b3 b4 b5 w wr _ RR HLB hlen HRZ.out.1 HRZ.out.2 (by omega) (by omega) hin1 hin2 (Lib.hid rfl) HRR2 HB H0 H1 H2 H3 _ ⟨rfl, rfl, rfl⟩
    · have q2 : (0 : Int) < (b2 : Int) := by omega
      have HKB := Lib.hid k2
      clear k2
      go_wp2_with fail
      refine (HI.out b4 n4 _).mono ?_
      rintro e w' ⟨rfl, rfl⟩
      by_cases c4 : b4 + n4 ≤ bs.length
      · rw [decide_eq_true c4]
        go_wp2_with fail
        refine (HI.out b5 n2 _).mono ?_
        rintro e w' ⟨rfl, rfl⟩
        by_cases c5 : b5 + n2 ≤ bs.length
        · rw [decide_eq_true c5]
          have hgood : (Rw.mk b0 b1 b2 b3 b4 b5).ok bs.length = true := by
            have := HKA.out
            have := HKB.out
            simp only [Rw.ok, inL, Bool.and_eq_true, Bool.or_eq_true, decide_eq_true_eq]
            omega
          have hrr := HRR.out
          rw [hgood, if_pos rfl] at hrr
          have HRR2 := Lib.hid hrr
          have hin1 := Lib.hid (show b1 = 0 ∨ b3 + 4 * b1 ≤ bs.length from by have := HKA.out; omega)
          have hin2 := Lib.hid (show b2 = 0 ∨ (b4 + 4 * b2 ≤ bs.length ∧ b5 + 2 * b2 ≤ bs.length) from by have := HKB.out; omega)
          clear hgood hrr
          go_wp2_with fail
          refine HK2.out _ _ ?_
          exact rexp_funcs bs rva size b0 b1 b2 b3 b4 b5 w wr _ RR HLB hlen HRZ.out.1 HRZ.out.2 (by omega) (by omega) hin1 hin2 (Lib.hid rfl) HRR2 HB H0 H1 H2 H3 _ ⟨rfl, rfl, rfl⟩
        · rw [decide_eq_false c5]
          have hbad : (Rw.mk b0 b1 b2 b3 b4 b5).ok bs.length = false := by
            rw [Bool.eq_false_iff]
            intro q
            simp only [Rw.ok, inL, Bool.and_eq_true, Bool.or_eq_true, decide_eq_true_eq] at q
            omega
          have hrr := HRR.out
          rw [hbad, if_neg (by simp)] at hrr
          subst hrr
          clear hbad
          have z0 : wr.cell? ⟨w.heap.size + 2, 0, none⟩ = some (.int .i64 0) := by rw [cell_of_row _ _ _ _ _ _ H2.out]; rfl
          have z1 : wr.cell? ⟨w.heap.size + 2, 1, none⟩ = some (.slice none 0 0) := by rw [cell_of_row _ _ _ _ _ _ H2.out]; rfl
          have z2 : wr.cell? ⟨w.heap.size + 2, 2, none⟩ = some (.slice none 0 0) := by rw [cell_of_row _ _ _ _ _ _ H2.out]; rfl
          obtain ⟨w9, hw9⟩ : ∃ w9, wr.setRow (w.heap.size + 1) #[.int .i64 0, .slice none 0 0, .slice none 0 0] = w9 := ⟨_, rfl⟩
          have HE9 := Lib.hid hw9
          have HR9 := Lib.hid (show w9.heap[w.heap.size + 1]? = some (.cells #[.int .i64 0, .slice none 0 0, .slice none 0 0] 32 (0, 0)) from by rw [← hw9]; exact setRow_heap _ _ _ _ _ _ H1.out)
          have HB9 := Lib.hid (show Below w.heap.size w w9 from by rw [← hw9]; exact below_setRow HB.out (Nat.le_succ _) _)
          have k0 : w9.cell? ⟨w.heap.size + 1, 0, none⟩ = some (.int .i64 0) := by rw [cell_of_row _ _ _ _ _ _ HR9.out]; rfl
          have k1 : w9.cell? ⟨w.heap.size + 1, 1, none⟩ = some (.slice none 0 0) := by rw [cell_of_row _ _ _ _ _ _ HR9.out]; rfl
          have k2 : w9.cell? ⟨w.heap.size + 1, 2, none⟩ = some (.slice none 0 0) := by rw [cell_of_row _ _ _ _ _ _ HR9.out]; rfl
          clear hw9
          go_upto_region 10 with (fail)
          go_wp2_with (first | (refine wpList_store_row rfl 32 _ _ rfl (w.heap.size + 1) #[.int .i64 0, .slice none 0 0, .slice none 0 0] rfl rfl 32 #[.int .i64 0, .slice none 0 0, .slice none 0 0] H1.out expInfo rfl expOne2 ?_; refine (congrArg _ HE9.out).mpr ?_) | fail)
          refine bodyPost_ret (v := .tuple #[.agg #[.int .i64 0, .slice none 0 0, .slice none 0 0], .int .i64 11]) (by simp [results, Try.results16, go_sem, k0, k1, k2]) rfl ⟨?_, HB9.out⟩
          exact rfl
      · rw [decide_eq_false c4]
        have hbad : (Rw.mk b0 b1 b2 b3 b4 b5).ok bs.length = false := by
          rw [Bool.eq_false_iff]
          intro q
          simp only [Rw.ok, inL, Bool.and_eq_true, Bool.or_eq_true, decide_eq_true_eq] at q
          omega
        have hrr := HRR.out
        rw [hbad, if_neg (by simp)] at hrr
        subst hrr
        clear hbad
        have z0 : wr.cell? ⟨w.heap.size + 2, 0, none⟩ = some (.int .i64 0) := by rw [cell_of_row _ _ _ _ _ _ H2.out]; rfl
        have z1 : wr.cell? ⟨w.heap.size + 2, 1, none⟩ = some (.slice none 0 0) := by rw [cell_of_row _ _ _ _ _ _ H2.out]; rfl
        have z2 : wr.cell? ⟨w.heap.size + 2, 2, none⟩ = some (.slice none 0 0) := by rw [cell_of_row _ _ _ _ _ _ H2.out]; rfl
        obtain ⟨w9, hw9⟩ : ∃ w9, wr.setRow (w.heap.size + 1) #[.int .i64 0, .slice none 0 0, .slice none 0 0] = w9 := ⟨_, rfl⟩
        have HE9 := Lib.hid hw9
        have HR9 := Lib.hid (show w9.heap[w.heap.size + 1]? = some (.cells #[.int .i64 0, .slice none 0 0, .slice none 0 0] 32 (0, 0)) from by rw [← hw9]; exact setRow_heap _ _ _ _ _ _ H1.out)
        have HB9 := Lib.hid (show Below w.heap.size w w9 from by rw [← hw9]; exact below_setRow HB.out (Nat.le_succ _) _)
        have k0 : w9.cell? ⟨w.heap.size + 1, 0, none⟩ = some (.int .i64 0) := by rw [cell_of_row _ _ _ _ _ _ HR9.out]; rfl
        have k1 : w9.cell? ⟨w.heap.size + 1, 1, none⟩ = some (.slice none 0 0) := by rw [cell_of_row _ _ _ _ _ _ HR9.out]; rfl
        have k2 : w9.cell? ⟨w.heap.size + 1, 2, none⟩ = some (.slice none 0 0) := by rw [cell_of_row _ _ _ _ _ _ HR9.out]; rfl
        clear hw9
        go_upto_region 10 with (fail)
        go_wp2_with (first | (refine wpList_store_row rfl 32 _ _ rfl (w.heap.size + 1) #[.int .i64 0, .slice none 0 0, .slice none 0 0] rfl rfl 32 #[.int .i64 0, .slice none 0 0, .slice none 0 0] H1.out expInfo rfl expOne2 ?_; refine (congrArg _ HE9.out).mpr ?_) | fail)
        refine bodyPost_ret (v := .tuple #[.agg #[.int .i64 0, .slice none 0 0, .slice none 0 0], .int .i64 11]) (by simp [results, Try.results16, go_sem, k0, k1, k2]) rfl ⟨?_, HB9.out⟩
        exact rfl
  · have q1 : (0 : Int) < (b1 : Int) := by omega
    have HKA := Lib.hid k1
    clear k1
    go_wp2_with fail
    refine (HI.out b3 f4 _).mono ?_
    rintro e w' ⟨rfl, rfl⟩
    by_cases c6 : b3 + f4 ≤ bs.length
    · rw [decide_eq_true c6]
      by_cases k2 : b2 = 0
      · have q2 : ¬ (0 : Int) < (b2 : Int) := by omega
        have HKB := Lib.hid k2
        clear k2
        have hgood : (Rw.mk b0 b1 b2 b3 b4 b5).ok bs.length = true := by
          have := HKA.out
          have := HKB.out
          simp only [Rw.ok, inL, Bool.and_eq_true, Bool.or_eq_true, decide_eq_true_eq]
          omega
        have hrr := HRR.out
        rw [hgood, if_pos rfl] at hrr
        have HRR2 := Lib.hid hrr
        have hin1 := Lib.hid (show b1 = 0 ∨ b3 + 4 * b1 ≤ bs.length from by have := HKA.out; omega)
        have hin2 := Lib.hid (show b2 = 0 ∨ (b4 + 4 * b2 ≤ bs.length ∧ b5 + 2 * b2 ≤ bs.length) from by have := HKB.out; omega)
        clear hgood hrr
        go_wp2_with fail
        refine HK2.out _ _ ?_
        exact rexp_funcs bs rva size b0 b1 b2 b3 b4 b5 w wr _ RR HLB hlen HRZ.out.1 HRZ.out.2 (by omega) (by omega) hin1 hin2 (Lib.hid rfl) HRR2 HB H0 H1 H2 H3 _ ⟨rfl, rfl, rfl⟩
      · have q2 : (0 : Int) < (b2 : Int) := by omega
        have HKB := Lib.hid k2
        clear k2
        go_wp2_with fail
        refine (HI.out b4 n4 _).mono ?_
        rintro e w' ⟨rfl, rfl⟩
        by_cases c4 : b4 + n4 ≤ bs.length
        · rw [decide_eq_true c4]
          go_wp2_with fail
          refine (HI.out b5 n2 _).mono ?_
          rintro e w' ⟨rfl, rfl⟩
          by_cases c5 : b5 + n2 ≤ bs.length
          · rw [decide_eq_true c5]
            have hgood : (Rw.mk b0 b1 b2 b3 b4 b5).ok bs.length = true := by
              have := HKA.out
              have := HKB.out
              simp only [Rw.ok, inL, Bool.and_eq_true, Bool.or_eq_true, decide_eq_true_eq]
              omega
            have hrr := HRR.out
            rw [hgood, if_pos rfl] at hrr
            have HRR2 := Lib.hid hrr
            have hin1 := Lib.hid (show b1 = 0 ∨ b3 + 4 * b1 ≤ bs.length from by have := HKA.out; omega)
            have hin2 := Lib.hid (show b2 = 0 ∨ (b4 + 4 * b2 ≤ bs.length ∧ b5 + 2 * b2 ≤ bs.length) from by have := HKB.out; omega)
            clear hgood hrr
            go_wp2_with fail
            refine HK2.out _ _ ?_
            exact rexp_funcs bs rva size b0 b1 b2 b3 b4 b5 w wr _ RR HLB hlen HRZ.out.1 HRZ.out.2 (by omega) (by omega) hin1 hin2 (Lib.hid rfl) HRR2 HB H0 H1 H2 H3 _ ⟨rfl, rfl, rfl⟩
          · rw [decide_eq_false c5]
            have hbad : (Rw.mk b0 b1 b2 b3 b4 b5).ok bs.length = false := by
              rw [Bool.eq_false_iff]
              intro q
              simp only [Rw.ok, inL, Bool.and_eq_true, Bool.or_eq_true, decide_eq_true_eq] at q
              omega
            have hrr := HRR.out
            rw [hbad, if_neg (by simp)] at hrr
            subst hrr
            clear hbad
            have z0 : wr.cell? ⟨w.heap.size + 2, 0, none⟩ = some (.int .i64 0) := by rw [cell_of_row _ _ _ _ _ _ H2.out]; rfl
            have z1 : wr.cell? ⟨w.heap.size + 2, 1, none⟩ = some (.slice none 0 0) := by rw [cell_of_row _ _ _ _ _ _ H2.out]; rfl
            have z2 : wr.cell? ⟨w.heap.size + 2, 2, none⟩ = some (.slice none 0 0) := by rw [cell_of_row _ _ _ _ _ _ H2.out]; rfl
            obtain ⟨w9, hw9⟩ : ∃ w9, wr.setRow (w.heap.size + 1) #[.int .i64 0, .slice none 0 0, .slice none 0 0] = w9 := ⟨_, rfl⟩
            have HE9 := Lib.hid hw9
            have HR9 := Lib.hid (show w9.heap[w.heap.size + 1]? = some (.cells #[.int .i64 0, .slice none 0 0, .slice none 0 0] 32 (0, 0)) from by rw [← hw9]; exact setRow_heap _ _ _ _ _ _ H1.out)
            have HB9 := Lib.hid (show Below w.heap.size w w9 from by rw [← hw9]; exact below_setRow HB.out (Nat.le_succ _) _)
            have k0 : w9.cell? ⟨w.heap.size + 1, 0, none⟩ = some (.int .i64 0) := by rw [cell_of_row _ _ _ _ _ _ HR9.out]; rfl
            have k1 : w9.cell? ⟨w.heap.size + 1, 1, none⟩ = some (.slice none 0 0) := by rw [cell_of_row _ _ _ _ _ _ HR9.out]; rfl
            have k2 : w9.cell? ⟨w.heap.size + 1, 2, none⟩ = some (.slice none 0 0) := by rw [cell_of_row _ _ _ _ _ _ HR9.out]; rfl
            clear hw9
            go_upto_region 10 with (fail)
            go_wp2_with (first | (refine wpList_store_row rfl 32 _ _ rfl (w.heap.size + 1) #[.int .i64 0, .slice none 0 0, .slice none 0 0] rfl rfl 32 #[.int .i64 0, .slice none 0 0, .slice none 0 0] H1.out expInfo rfl expOne2 ?_; refine (congrArg _ HE9.out).mpr ?_) | fail)
            refine bodyPost_ret (v := .tuple #[.agg #[.int .i64 0, .slice none 0 0, .slice none 0 0], .int .i64 11]) (by simp [results, Try.results16, go_sem, k0, k1, k2]) rfl ⟨?_, HB9.out⟩
            exact rfl
        · rw [decide_eq_false c4]
          have hbad : (Rw.mk b0 b1 b2 b3 b4 b5).ok bs.length = false := by
            rw [Bool.eq_false_iff]
            intro q
            simp only [Rw.ok, inL, Bool.and_eq_true, Bool.or_eq_true, decide_eq_true_eq] at q
            omega
          have hrr := HRR.out
          rw [hbad, if_neg (by simp)] at hrr
          subst hrr
          clear hbad
          have z0 : wr.cell? ⟨w.heap.size + 2, 0, none⟩ = some (.int .i64 0) := by rw [cell_of_row _ _ _ _ _ _ H2.out]; rfl
          have z1 : wr.cell? ⟨w.heap.size + 2, 1, none⟩ = some (.slice none 0 0) := by rw [cell_of_row _ _ _ _ _ _ H2.out]; rfl
          have z2 : wr.cell? ⟨w.heap.size + 2, 2, none⟩ = some (.slice none 0 0) := by rw [cell_of_row _ _ _ _ _ _ H2.out]; rfl
          obtain ⟨w9, hw9⟩ : ∃ w9, wr.setRow (w.heap.size + 1) #[.int .i64 0, .slice none 0 0, .slice none 0 0] = w9 := ⟨_, rfl⟩
          have HE9 := Lib.hid hw9
          have HR9 := Lib.hid (show w9.heap[w.heap.size + 1]? = some (.cells #[.int .i64 0, .slice none 0 0, .slice none 0 0] 32 (0, 0)) from by rw [← hw9]; exact setRow_heap _ _ _ _ _ _ H1.out)
          have HB9 := Lib.hid (show Below w.heap.size w w9 from by rw [← hw9]; exact below_setRow HB.out (Nat.le_succ _) _)
          have k0 : w9.cell? ⟨w.heap.size + 1, 0, none⟩ = some (.int .i64 0) := by rw [cell_of_row _ _ _ _ _ _ HR9.out]; rfl
          have k1 : w9.cell? ⟨w.heap.size + 1, 1, none⟩ = some (.slice none 0 0) := by rw [cell_of_row _ _ _ _ _ _ HR9.out]; rfl
          have k2 : w9.cell? ⟨w.heap.size + 1, 2, none⟩ = some (.slice none 0 0) := by rw [cell_of_row _ _ _ _ _ _ HR9.out]; rfl
          clear hw9
          go_upto_region 10 with (fail)
          go_wp2_with (first | (refine wpList_store_row rfl 32 _ _ rfl (w.heap.size + 1) #[.int .i64 0, .slice none 0 0, .slice none 0 0] rfl rfl 32 #[.int .i64 0, .slice none 0 0, .slice none 0 0] H1.out expInfo rfl expOne2 ?_; refine (congrArg _ HE9.out).mpr ?_) | fail)
          refine bodyPost_ret (v := .tuple #[.agg #[.int .i64 0, .slice none 0 0, .slice none 0 0], .int .i64 11]) (by simp [results, Try.results16, go_sem, k0, k1, k2]) rfl ⟨?_, HB9.out⟩
          exact rfl
    · rw [decide_eq_false c6]
      have hbad : (Rw.mk b0 b1 b2 b3 b4 b5).ok bs.length = false := by
        rw [Bool.eq_false_iff]
        intro q
        simp only [Rw.ok, inL, Bool.and_eq_true, Bool.or_eq_true, decide_eq_true_eq] at q
        omega
      have hrr := HRR.out
      rw [hbad, if_neg (by simp)] at hrr
      subst hrr
      clear hbad
      have z0 : wr.cell? ⟨w.heap.size + 2, 0, none⟩ = some (.int .i64 0) := by rw [cell_of_row _ _ _ _ _ _ H2.out]; rfl
      have z1 : wr.cell? ⟨w.heap.size + 2, 1, none⟩ = some (.slice none 0 0) := by rw [cell_of_row _ _ _ _ _ _ H2.out]; rfl
      have z2 : wr.cell? ⟨w.heap.size + 2, 2, none⟩ = some (.slice none 0 0) := by rw [cell_of_row _ _ _ _ _ _ H2.out]; rfl
      obtain ⟨w9, hw9⟩ : ∃ w9, wr.setRow (w.heap.size + 1) #[.int .i64 0, .slice none 0 0, .slice none 0 0] = w9 := ⟨_, rfl⟩
      have HE9 := Lib.hid hw9
      have HR9 := Lib.hid (show w9.heap[w.heap.size + 1]? = some (.cells #[.int .i64 0, .slice none 0 0, .slice none 0 0] 32 (0, 0)) from by rw [← hw9]; exact setRow_heap _ _ _ _ _ _ H1.out)
      have HB9 := Lib.hid (show Below w.heap.size w w9 from by rw [← hw9]; exact below_setRow HB.out (Nat.le_succ _) _)
      have k0 : w9.cell? ⟨w.heap.size + 1, 0, none⟩ = some (.int .i64 0) := by rw [cell_of_row _ _ _ _ _ _ HR9.out]; rfl
      have k1 : w9.cell? ⟨w.heap.size + 1, 1, none⟩ = some (.slice none 0 0) := by rw [cell_of_row _ _ _ _ _ _ HR9.out]; rfl
      have k2 : w9.cell? ⟨w.heap.size + 1, 2, none⟩ = some (.slice none 0 0) := by rw [cell_of_row _ _ _ _ _ _ HR9.out]; rfl
      clear hw9
      go_upto_region 10 with (fail)
      go_wp2_with (first | (refine wpList_store_row rfl 32 _ _ rfl (w.heap.size + 1) #[.int .i64 0, .slice none 0 0, .slice none 0 0] rfl rfl 32 #[.int .i64 0, .slice none 0 0, .slice none 0 0] H1.out expInfo rfl expOne2 ?_; refine (congrArg _ HE9.out).mpr ?_) | fail)
      refine bodyPost_ret (v := .tuple #[.agg #[.int .i64 0, .slice none 0 0, .slice none 0 0], .int .i64 11]) (by simp [results, Try.results16, go_sem, k0, k1, k2]) rfl ⟨?_, HB9.out⟩
      exact rfl
end Go.Proofs.Ytbjabncefhgefaa
namespace Go.Proofs.Ytbjabncefhgefaa
open Go.ChangeShapes Go.WideShapes Go.ChangeAt Go.RowKit
set_option linter.unusedVariables false
set_option linter.unusedSimpArgs false

set_option maxRecDepth 100000 in
set_option maxHeartbeats 8000000 in
theorem rexports_any (bs : List Nat) (rva size : Int) (w : World) (hb : Lb bs) (hlen : bs.length ≤ 1000000) (hr : -9223372036854775808 ≤ rva) (hr' : rva ≤ 9223372036854775807) (hz : -9223372036854775808 ≤ size) (hz' : size ≤ 9223372036854775807) :
    Calls Try.prog 16 #[.string (txt bs), .agg #[.int .i64 rva, .int .i64 size]] w fun e w' => ParseE w w' (parseE bs rva size) e ∧ Below w.heap.size w w' := by
  obtain ⟨RR, hR⟩ : ∃ R, parseE bs rva size = R := ⟨_, rfl⟩
  rw [hR]
  unfold parseE at hR
  obtain ⟨w1, hw1⟩ : ∃ w1, ((w.alloc (.cells #[.int .i64 rva, .int .i64 size] 26)).alloc (.cells #[.int .i64 0, .slice none 0 0, .slice none 0 0] 32)).alloc (.cells #[.int .i64 0, .slice none 0 0, .slice none 0 0] 32) = w1 := ⟨_, rfl⟩
  have hs1 : (w.alloc (.cells #[.int .i64 rva, .int .i64 size] 26)).heap.size = w.heap.size + 1 := by simp
  have hs2 : ((w.alloc (.cells #[.int .i64 rva, .int .i64 size] 26)).alloc (.cells #[.int .i64 0, .slice none 0 0, .slice none 0 0] 32)).heap.size = w.heap.size + 2 := by simp
  have HB := Lib.hid (show Below w.heap.size w w1 from by rw [← hw1]; exact ((((Below.refl w.heap.size w).alloc (Nat.le_refl _) _).alloc (by rw [hs1]; omega) _).alloc (by rw [hs2]; omega) _))
  have H0 := Lib.hid (show w1.heap[w.heap.size]? = some (.cells #[.int .i64 rva, .int .i64 size] 26 (0, 0)) from by
    rw [← hw1]
    exact (Below.heap_alloc _ _ w.heap.size (by rw [hs2]; omega)).trans ((Below.heap_alloc _ _ w.heap.size (by rw [hs1]; omega)).trans (heap_alloc_new w _)))
  have H1 := Lib.hid (show w1.heap[w.heap.size + 1]? = some (.cells #[.int .i64 0, .slice none 0 0, .slice none 0 0] 32 (0, 0)) from by
    rw [← hw1]
    refine (Below.heap_alloc _ _ (w.heap.size + 1) (by rw [hs2]; omega)).trans ?_
    have h := heap_alloc_new (w.alloc (.cells #[.int .i64 rva, .int .i64 size] 26)) (.cells #[.int .i64 0, .slice none 0 0, .slice none 0 0] 32)
    rwa [hs1] at h)
  have H2 := Lib.hid (show w1.heap[w.heap.size + 2]? = some (.cells #[.int .i64 0, .slice none 0 0, .slice none 0 0] 32 (0, 0)) from by
    rw [← hw1]
    have h := heap_alloc_new ((w.alloc (.cells #[.int .i64 rva, .int .i64 size] 26)).alloc (.cells #[.int .i64 0, .slice none 0 0, .slice none 0 0] 32)) (.cells #[.int .i64 0, .slice none 0 0, .slice none 0 0] 32)
    rwa [hs2] at h)
  have HS1 := Lib.hid (show w1.heap.size = w.heap.size + 3 from by rw [← hw1]; simp)
  have HE1 := Lib.hid hw1
  have HLB := Lib.hid hb
  have hsz : (txt bs).size = bs.length := txt_size bs
  have r0 : w1.cell? ⟨w.heap.size, 0, none⟩ = some (.int .i64 rva) := by rw [cell_of_row _ _ _ _ _ _ H0.out]; rfl
  have r1 : w1.cell? ⟨w.heap.size, 1, none⟩ = some (.int .i64 size) := by rw [cell_of_row _ _ _ _ _ _ H0.out]; rfl
  clear hw1 hs1 hs2 hb
  by_cases c0 : rva = 0
  · subst c0
    rw [if_pos rfl] at hR
    subst hR
    go_enter Try.func16, Try.ntmps16
    go_upto_region 2 with (fail)
    refine (congrArg _ HE1.out).mpr ?_
    have z0 : w1.cell? ⟨w.heap.size + 2, 0, none⟩ = some (.int .i64 0) := by rw [cell_of_row _ _ _ _ _ _ H2.out]; rfl
    have z1 : w1.cell? ⟨w.heap.size + 2, 1, none⟩ = some (.slice none 0 0) := by rw [cell_of_row _ _ _ _ _ _ H2.out]; rfl
    have z2 : w1.cell? ⟨w.heap.size + 2, 2, none⟩ = some (.slice none 0 0) := by rw [cell_of_row _ _ _ _ _ _ H2.out]; rfl
    obtain ⟨w9, hw9⟩ : ∃ w9, w1.setRow (w.heap.size + 1) #[.int .i64 0, .slice none 0 0, .slice none 0 0] = w9 := ⟨_, rfl⟩
    have HE9 := Lib.hid hw9
    have HR9 := Lib.hid (show w9.heap[w.heap.size + 1]? = some (.cells #[.int .i64 0, .slice none 0 0, .slice none 0 0] 32 (0, 0)) from by rw [← hw9]; exact setRow_heap _ _ _ _ _ _ H1.out)
    have HB9 := Lib.hid (show Below w.heap.size w w9 from by rw [← hw9]; exact below_setRow HB.out (Nat.le_succ _) _)
    have k0 : w9.cell? ⟨w.heap.size + 1, 0, none⟩ = some (.int .i64 0) := by rw [cell_of_row _ _ _ _ _ _ HR9.out]; rfl
    have k1 : w9.cell? ⟨w.heap.size + 1, 1, none⟩ = some (.slice none 0 0) := by rw [cell_of_row _ _ _ _ _ _ HR9.out]; rfl
    have k2 : w9.cell? ⟨w.heap.size + 1, 2, none⟩ = some (.slice none 0 0) := by rw [cell_of_row _ _ _ _ _ _ HR9.out]; rfl
    clear hw9
    go_wp2_with (first | (refine wpList_store_row rfl 32 _ _ rfl (w.heap.size + 1) #[.int .i64 0, .slice none 0 0, .slice none 0 0] rfl rfl 32 #[.int .i64 0, .slice none 0 0, .slice none 0 0] H1.out expInfo rfl expOne2 ?_; refine (congrArg _ HE9.out).mpr ?_) | fail)
    refine bodyPost_ret (v := .tuple #[.agg #[.int .i64 0, .slice none 0 0, .slice none 0 0], .int .i64 0]) (by simp [results, Try.results16, go_sem, k0, k1, k2]) rfl ⟨?_, HB9.out⟩
    exact ⟨none, 0, none, 0, rfl, OwnT.nil _ _ _, OwnT.nil _ _ _⟩
  rw [if_neg c0] at hR
  have d0 : (rva == 0) = false := beq_eq_false_iff_ne.mpr c0
  by_cases c1 : 0 ≤ rva ∧ 0 ≤ size ∧ rva ≤ bs.length - size
  · by_cases c2 : 40 ≤ size
    · obtain ⟨o, rfl⟩ : ∃ o : Nat, rva = (o : Int) := ⟨rva.toNat, by omega⟩
      obtain ⟨z, rfl⟩ : ∃ z : Nat, size = (z : Int) := ⟨size.toNat, by omega⟩
      have hoz : o + z ≤ bs.length := by omega
      have HIN := Lib.hid (fun W => in_yes bs.length o z W (by omega) (by omega) (by omega) (by omega))
      have d1 : ¬ (z : Int) < 40 := by omega
      unfold findE at hR
      rw [if_pos (by omega), Int.toNat_natCast, Int.toNat_natCast] at hR
      unfold rowsL at hR
      obtain ⟨o16, ho16⟩ : ∃ q, o + 16 = q := ⟨_, rfl⟩
      have eo16 : (o : Int) + 16 = (o16 : Int) := by omega
      have wo16 : IntKind.i64.wrap (o16 : Int) = (o16 : Int) := by rw [IntKind.wrap_i64]; omega
      have HU16 := Lib.hid (fun W => rint_list bs o16 4 W HLB.out (by omega) (by omega) (by omega))
      have hx16 := numL_lt (HLB.out.drop o16) 4
      rw [show (256 : Nat) ^ 4 = 4294967296 from rfl] at hx16
      rw [ho16] at hR
      obtain ⟨x16, hxx16⟩ : ∃ v, numL (bs.drop o16) 4 = v := ⟨_, rfl⟩
      rw [hxx16] at HU16 hx16 hR
      clear ho16 hxx16
      obtain ⟨o20, ho20⟩ : ∃ q, o + 20 = q := ⟨_, rfl⟩
      have eo20 : (o : Int) + 20 = (o20 : Int) := by omega
      have wo20 : IntKind.i64.wrap (o20 : Int) = (o20 : Int) := by rw [IntKind.wrap_i64]; omega
      have HU20 := Lib.hid (fun W => rint_list bs o20 4 W HLB.out (by omega) (by omega) (by omega))
      have hx20 := numL_lt (HLB.out.drop o20) 4
      rw [show (256 : Nat) ^ 4 = 4294967296 from rfl] at hx20
      rw [ho20] at hR
      obtain ⟨x20, hxx20⟩ : ∃ v, numL (bs.drop o20) 4 = v := ⟨_, rfl⟩
      rw [hxx20] at HU20 hx20 hR
      clear ho20 hxx20
      obtain ⟨o24, ho24⟩ : ∃ q, o + 24 = q := ⟨_, rfl⟩
      have eo24 : (o : Int) + 24 = (o24 : Int) := by omega
      have wo24 : IntKind.i64.wrap (o24 : Int) = (o24 : Int) := by rw [IntKind.wrap_i64]; omega
      have HU24 := Lib.hid (fun W => rint_list bs o24 4 W HLB.out (by omega) (by omega) (by omega))
      have hx24 := numL_lt (HLB.out.drop o24) 4
      rw [show (256 : Nat) ^ 4 = 4294967296 from rfl] at hx24
      rw [ho24] at hR
      obtain ⟨x24, hxx24⟩ : ∃ v, numL (bs.drop o24) 4 = v := ⟨_, rfl⟩
      rw [hxx24] at HU24 hx24 hR
      clear ho24 hxx24
      obtain ⟨o28, ho28⟩ : ∃ q, o + 28 = q := ⟨_, rfl⟩
      have eo28 : (o : Int) + 28 = (o28 : Int) := by omega
      have wo28 : IntKind.i64.wrap (o28 : Int) = (o28 : Int) := by rw [IntKind.wrap_i64]; omega
      have HU28 := Lib.hid (fun W => rint_list bs o28 4 W HLB.out (by omega) (by omega) (by omega))
      have hx28 := numL_lt (HLB.out.drop o28) 4
      rw [show (256 : Nat) ^ 4 = 4294967296 from rfl] at hx28
      rw [ho28] at hR
      obtain ⟨x28, hxx28⟩ : ∃ v, numL (bs.drop o28) 4 = v := ⟨_, rfl⟩
      rw [hxx28] at HU28 hx28 hR
      clear ho28 hxx28
      obtain ⟨o32, ho32⟩ : ∃ q, o + 32 = q := ⟨_, rfl⟩
      have eo32 : (o : Int) + 32 = (o32 : Int) := by omega
      have wo32 : IntKind.i64.wrap (o32 : Int) = (o32 : Int) := by rw [IntKind.wrap_i64]; omega
      have HU32 := Lib.hid (fun W => rint_list bs o32 4 W HLB.out (by omega) (by omega) (by omega))
      have hx32 := numL_lt (HLB.out.drop o32) 4
      rw [show (256 : Nat) ^ 4 = 4294967296 from rfl] at hx32
      rw [ho32] at hR
      obtain ⟨x32, hxx32⟩ : ∃ v, numL (bs.drop o32) 4 = v := ⟨_, rfl⟩
      rw [hxx32] at HU32 hx32 hR
      clear ho32 hxx32
      obtain ⟨o36, ho36⟩ : ∃ q, o + 36 = q := ⟨_, rfl⟩
      have eo36 : (o : Int) + 36 = (o36 : Int) := by omega
      have wo36 : IntKind.i64.wrap (o36 : Int) = (o36 : Int) := by rw [IntKind.wrap_i64]; omega
      have HU36 := Lib.hid (fun W => rint_list bs o36 4 W HLB.out (by omega) (by omega) (by omega))
      have hx36 := numL_lt (HLB.out.drop o36) 4
      rw [show (256 : Nat) ^ 4 = 4294967296 from rfl] at hx36
      rw [ho36] at hR
      obtain ⟨x36, hxx36⟩ : ∃ v, numL (bs.drop o36) 4 = v := ⟨_, rfl⟩
      rw [hxx36] at HU36 hx36 hR
      clear ho36 hxx36
      have HRE := Lib.hid (show RR = if (Rw.mk x16 x20 x24 x28 x32 x36).ok bs.length = true then finX bs x16 x20 x24 x32 x36 (funcsL bs o z x28 x20 0 []) else none from by
        rw [← hR]
        unfold finX
        by_cases hk : (Rw.mk x16 x20 x24 x28 x32 x36).ok bs.length = true
        · rw [if_pos hk, if_pos hk]
          simp only
          cases funcsL bs o z x28 x20 0 [] <;> rfl
        · rw [if_neg hk, if_neg hk])
      clear hR c0 c1 c2 hr hz
      go_enter Try.func16, Try.ntmps16
      go_upto_region 2 with (fail)
      refine (congrArg _ HE1.out).mpr ?_
      go_wp2_with fail
      refine (HIN.out _).mono ?_
      rintro e w' ⟨rfl, rfl⟩
      go_wp2_with fail
      refine (HU16.out _).mono ?_
      rintro e w' ⟨rfl, rfl⟩
      obtain ⟨w2, hw2⟩ : ∃ w2, w1.alloc (.cells #[.int .i64 x16, .slice none 0 0, .slice none 0 0] 32) = w2 := ⟨_, rfl⟩
      have HE2 := Lib.hid hw2
      have hA : Below w1.heap.size w1 w2 := by rw [← hw2]; exact (Below.refl w1.heap.size w1).alloc (Nat.le_refl _) _
      replace HB := Lib.hid (HB.out.trans (hA.mono HB.out.size))
      replace H0 := Lib.hid ((hA.block _ (lt_of_row' H0.out)).trans H0.out)
      replace H1 := Lib.hid ((hA.block _ (lt_of_row' H1.out)).trans H1.out)
      replace H2 := Lib.hid ((hA.block _ (lt_of_row' H2.out)).trans H2.out)
      have H3 := Lib.hid (show w2.heap[w.heap.size + 3]? = some (.cells #[.int .i64 x16, .slice none 0 0, .slice none 0 0] 32 (0, 0)) from by
        rw [← hw2]
        have h := heap_alloc_new w1 (.cells #[.int .i64 x16, .slice none 0 0, .slice none 0 0] 32)
        rwa [HS1.out] at h)
      clear hw2 hA r0 r1
      have hs1 := HS1.out
      go_upto_region 7 with (fail)
      refine (congrArg _ HE2.out).mpr ?_
      have HC := Lib.hid (fun W (hW : Below w2.heap.size w2 W) => show W.cell? ⟨w.heap.size, 0, none⟩ = some (.int .i64 o) from by rw [cell_of_row _ _ _ _ _ _ ((hW.block _ (lt_of_row' H0.out)).trans H0.out)]; rfl)
      have HS := Lib.hid (show Below w2.heap.size w2 w2.drew from (Below.refl _ _).drew)
      refine wp_region_noPanic ?_
      refine wp_region_K (fun W => Below w2.heap.size w2 W) (fun _ => True) 99 (by kernel_rfl) ?_
      refine wpAnyK_take (i := 0) (oi := ?_) (v := ?_) ?_ (by kernel_rfl) (by kernel_rfl) (by kernel_rfl) (fun _ _ _ h => h) (by decide) ?_ HS.out (fun _ => trivial) ?_
      rotate_left 2
      · (simp only [List.getElem?_toArray, List.getElem?_cons_succ, List.getElem?_cons_zero]; rfl)
      · (first | exact Or.inr ⟨by rfl, rfl⟩ | (refine Or.inl ⟨by rfl, ?_⟩; intro W hSw; clear hSw; go_simp; try with_reducible rfl))
      try simp only [Act.put, List.setIfInBounds_toArray, List.set_cons_zero, List.set_cons_succ]
      refine wpAnyK_take (i := 1) (oi := ?_) (v := ?_) ?_ (by kernel_rfl) (by kernel_rfl) (by kernel_rfl) (fun _ _ _ h => h) (by decide) ?_ HS.out (fun _ => trivial) ?_
      rotate_left 2
      · (simp only [List.getElem?_toArray, List.getElem?_cons_succ, List.getElem?_cons_zero]; rfl)
      · (first | exact Or.inr ⟨by rfl, rfl⟩ | (refine Or.inl ⟨by rfl, ?_⟩; intro W hSw; clear hSw; go_simp; try with_reducible rfl))
      try simp only [Act.put, List.setIfInBounds_toArray, List.set_cons_zero, List.set_cons_succ]
      refine wpAnyK_take (i := 2) (oi := ?_) (v := ?_) ?_ (by kernel_rfl) (by kernel_rfl) (by kernel_rfl) (fun _ _ _ h => h) (by decide) ?_ HS.out (fun _ => trivial) ?_
      rotate_left 2
      · (simp only [List.getElem?_toArray, List.getElem?_cons_succ, List.getElem?_cons_zero]; rfl)
      · (first | exact Or.inr ⟨by rfl, rfl⟩ | (refine Or.inl ⟨by rfl, ?_⟩; intro W hSw; have hq0 := HC.out W hSw; clear hSw; go_simp; try with_reducible rfl))
      try simp only [Act.put, List.setIfInBounds_toArray, List.set_cons_zero, List.set_cons_succ]
      refine wpAnyK_take (i := 3) (oi := ?_) (v := ?_) ?_ (by kernel_rfl) (by kernel_rfl) (by kernel_rfl) (fun _ _ _ h => h) (by decide) ?_ HS.out (fun _ => trivial) ?_
      rotate_left 2
      · (simp only [List.getElem?_toArray, List.getElem?_cons_succ, List.getElem?_cons_zero]; rfl)
      · (first | exact Or.inr ⟨by rfl, rfl⟩ | (refine Or.inl ⟨by rfl, ?_⟩; intro W hSw; clear hSw; go_simp; try with_reducible rfl))
      try simp only [Act.put, List.setIfInBounds_toArray, List.set_cons_zero, List.set_cons_succ]
      refine wpAnyK_takeQ (i := 4) (oi := ?_) (v := .int .i64 x20) ?_ (by kernel_rfl) (by kernel_rfl) (by kernel_rfl) (fun _ _ _ h => h) (by decide) ?_ HS.out (fun _ => trivial) ?_
      rotate_left 1
      · (simp only [List.getElem?_toArray, List.getElem?_cons_succ, List.getElem?_cons_zero]; rfl)
      · refine ⟨by rfl, fun W hW => ⟨35, #[.string (txt bs), .int .i64 o20, .int .i64 4], ?_, HU20.out W⟩⟩
        first | kernel_rfl | (go_simp; done) | rfl
      try simp only [Act.put, List.setIfInBounds_toArray, List.set_cons_zero, List.set_cons_succ]
      refine wpAnyK_take (i := 5) (oi := ?_) (v := ?_) ?_ (by kernel_rfl) (by kernel_rfl) (by kernel_rfl) (fun _ _ _ h => h) (by decide) ?_ HS.out (fun _ => trivial) ?_
      rotate_left 2
      · (simp only [List.getElem?_toArray, List.getElem?_cons_succ, List.getElem?_cons_zero]; rfl)
      · (first | exact Or.inr ⟨by rfl, rfl⟩ | (refine Or.inl ⟨by rfl, ?_⟩; intro W hSw; clear hSw; go_simp; try with_reducible rfl))
      try simp only [Act.put, List.setIfInBounds_toArray, List.set_cons_zero, List.set_cons_succ]
      refine wpAnyK_take (i := 6) (oi := ?_) (v := ?_) ?_ (by kernel_rfl) (by kernel_rfl) (by kernel_rfl) (fun _ _ _ h => h) (by decide) ?_ HS.out (fun _ => trivial) ?_
      rotate_left 2
      · (simp only [List.getElem?_toArray, List.getElem?_cons_succ, List.getElem?_cons_zero]; rfl)
      · (first | exact Or.inr ⟨by rfl, rfl⟩ | (refine Or.inl ⟨by rfl, ?_⟩; intro W hSw; clear hSw; go_simp; try with_reducible rfl))
      try simp only [Act.put, List.setIfInBounds_toArray, List.set_cons_zero, List.set_cons_succ]
      refine wpAnyK_take (i := 7) (oi := ?_) (v := ?_) ?_ (by kernel_rfl) (by kernel_rfl) (by kernel_rfl) (fun _ _ _ h => h) (by decide) ?_ HS.out (fun _ => trivial) ?_
      rotate_left 2
      · (simp only [List.getElem?_toArray, List.getElem?_cons_succ, List.getElem?_cons_zero]; rfl)
      · (first | exact Or.inr ⟨by rfl, rfl⟩ | (refine Or.inl ⟨by rfl, ?_⟩; intro W hSw; have hq0 := HC.out W hSw; clear hSw; go_simp; try with_reducible rfl))
      try simp only [Act.put, List.setIfInBounds_toArray, List.set_cons_zero, List.set_cons_succ]
      refine wpAnyK_take (i := 8) (oi := ?_) (v := ?_) ?_ (by kernel_rfl) (by kernel_rfl) (by kernel_rfl) (fun _ _ _ h => h) (by decide) ?_ HS.out (fun _ => trivial) ?_
      rotate_left 2
      · (simp only [List.getElem?_toArray, List.getElem?_cons_succ, List.getElem?_cons_zero]; rfl)
      · (first | exact Or.inr ⟨by rfl, rfl⟩ | (refine Or.inl ⟨by rfl, ?_⟩; intro W hSw; clear hSw; go_simp; try with_reducible rfl))
      try simp only [Act.put, List.setIfInBounds_toArray, List.set_cons_zero, List.set_cons_succ]
      refine wpAnyK_takeQ (i := 9) (oi := ?_) (v := .int .i64 x24) ?_ (by kernel_rfl) (by kernel_rfl) (by kernel_rfl) (fun _ _ _ h => h) (by decide) ?_ HS.out (fun _ => trivial) ?_
      rotate_left 1
      · (simp only [List.getElem?_toArray, List.getElem?_cons_succ, List.getElem?_cons_zero]; rfl)
      · refine ⟨by rfl, fun W hW => ⟨35, #[.string (txt bs), .int .i64 o24, .int .i64 4], ?_, HU24.out W⟩⟩
        first | kernel_rfl | (go_simp; done) | rfl
      try simp only [Act.put, List.setIfInBounds_toArray, List.set_cons_zero, List.set_cons_succ]
      refine wpAnyK_take (i := 10) (oi := ?_) (v := ?_) ?_ (by kernel_rfl) (by kernel_rfl) (by kernel_rfl) (fun _ _ _ h => h) (by decide) ?_ HS.out (fun _ => trivial) ?_
      rotate_left 2
      · (simp only [List.getElem?_toArray, List.getElem?_cons_succ, List.getElem?_cons_zero]; rfl)
      · (first | exact Or.inr ⟨by rfl, rfl⟩ | (refine Or.inl ⟨by rfl, ?_⟩; intro W hSw; clear hSw; go_simp; try with_reducible rfl))
      try simp only [Act.put, List.setIfInBounds_toArray, List.set_cons_zero, List.set_cons_succ]
      refine wpAnyK_take (i := 11) (oi := ?_) (v := ?_) ?_ (by kernel_rfl) (by kernel_rfl) (by kernel_rfl) (fun _ _ _ h => h) (by decide) ?_ HS.out (fun _ => trivial) ?_
      rotate_left 2
      · (simp only [List.getElem?_toArray, List.getElem?_cons_succ, List.getElem?_cons_zero]; rfl)
      · (first | exact Or.inr ⟨by rfl, rfl⟩ | (refine Or.inl ⟨by rfl, ?_⟩; intro W hSw; clear hSw; go_simp; try with_reducible rfl))
      try simp only [Act.put, List.setIfInBounds_toArray, List.set_cons_zero, List.set_cons_succ]
      refine wpAnyK_done (by kernel_rfl) ?_ _
      refine NoPanic.normal ?_
      clear HC HS
      obtain ⟨w3, hw3⟩ : ∃ q, w2.drew = q := ⟨_, rfl⟩
      have HE3 := Lib.hid hw3
      replace HB := Lib.hid (show Below w.heap.size w w3 from by rw [← hw3]; exact HB.out.drew)
      replace H0 := Lib.hid (show w3.heap[w.heap.size]? = some (.cells #[.int .i64 o, .int .i64 z] 26 (0, 0)) from by rw [← hw3]; exact H0.out)
      replace H1 := Lib.hid (show w3.heap[w.heap.size + 1]? = some (.cells #[.int .i64 0, .slice none 0 0, .slice none 0 0] 32 (0, 0)) from by rw [← hw3]; exact H1.out)
      replace H2 := Lib.hid (show w3.heap[w.heap.size + 2]? = some (.cells #[.int .i64 0, .slice none 0 0, .slice none 0 0] 32 (0, 0)) from by rw [← hw3]; exact H2.out)
      replace H3 := Lib.hid (show w3.heap[w.heap.size + 3]? = some (.cells #[.int .i64 x16, .slice none 0 0, .slice none 0 0] 32 (0, 0)) from by rw [← hw3]; exact H3.out)
      clear hw3
      go_upto_region 8 with (fail)
      refine (congrArg _ HE3.out).mpr ?_
      have HC := Lib.hid (fun W (hW : Below w3.heap.size w3 W) => show W.cell? ⟨w.heap.size, 0, none⟩ = some (.int .i64 o) from by rw [cell_of_row _ _ _ _ _ _ ((hW.block _ (lt_of_row' H0.out)).trans H0.out)]; rfl)
      have HS := Lib.hid (show Below w3.heap.size w3 w3.drew from (Below.refl _ _).drew)
      refine wp_region_noPanic ?_
      refine wp_region_K (fun W => Below w3.heap.size w3 W) (fun _ => True) 99 (by kernel_rfl) ?_
      refine wpAnyK_take (i := 0) (oi := ?_) (v := ?_) ?_ (by kernel_rfl) (by kernel_rfl) (by kernel_rfl) (fun _ _ _ h => h) (by decide) ?_ HS.out (fun _ => trivial) ?_
      rotate_left 2
      · (simp only [List.getElem?_toArray, List.getElem?_cons_succ, List.getElem?_cons_zero]; rfl)
      · (first | exact Or.inr ⟨by rfl, rfl⟩ | (refine Or.inl ⟨by rfl, ?_⟩; intro W hSw; clear hSw; go_simp; try with_reducible rfl))
      try simp only [Act.put, List.setIfInBounds_toArray, List.set_cons_zero, List.set_cons_succ]
      refine wpAnyK_take (i := 1) (oi := ?_) (v := ?_) ?_ (by kernel_rfl) (by kernel_rfl) (by kernel_rfl) (fun _ _ _ h => h) (by decide) ?_ HS.out (fun _ => trivial) ?_
      rotate_left 2
      · (simp only [List.getElem?_toArray, List.getElem?_cons_succ, List.getElem?_cons_zero]; rfl)
      · (first | exact Or.inr ⟨by rfl, rfl⟩ | (refine Or.inl ⟨by rfl, ?_⟩; intro W hSw; clear hSw; go_simp; try with_reducible rfl))
      try simp only [Act.put, List.setIfInBounds_toArray, List.set_cons_zero, List.set_cons_succ]
      refine wpAnyK_take (i := 2) (oi := ?_) (v := ?_) ?_ (by kernel_rfl) (by kernel_rfl) (by kernel_rfl) (fun _ _ _ h => h) (by decide) ?_ HS.out (fun _ => trivial) ?_
      rotate_left 2
      · (simp only [List.getElem?_toArray, List.getElem?_cons_succ, List.getElem?_cons_zero]; rfl)
      · (first | exact Or.inr ⟨by rfl, rfl⟩ | (refine Or.inl ⟨by rfl, ?_⟩; intro W hSw; have hq0 := HC.out W hSw; clear hSw; go_simp; try with_reducible rfl))
      try simp only [Act.put, List.setIfInBounds_toArray, List.set_cons_zero, List.set_cons_succ]
      refine wpAnyK_take (i := 3) (oi := ?_) (v := ?_) ?_ (by kernel_rfl) (by kernel_rfl) (by kernel_rfl) (fun _ _ _ h => h) (by decide) ?_ HS.out (fun _ => trivial) ?_
      rotate_left 2
      · (simp only [List.getElem?_toArray, List.getElem?_cons_succ, List.getElem?_cons_zero]; rfl)
      · (first | exact Or.inr ⟨by rfl, rfl⟩ | (refine Or.inl ⟨by rfl, ?_⟩; intro W hSw; clear hSw; go_simp; try with_reducible rfl))
      try simp only [Act.put, List.setIfInBounds_toArray, List.set_cons_zero, List.set_cons_succ]
      refine wpAnyK_takeQ (i := 4) (oi := ?_) (v := .int .i64 x28) ?_ (by kernel_rfl) (by kernel_rfl) (by kernel_rfl) (fun _ _ _ h => h) (by decide) ?_ HS.out (fun _ => trivial) ?_
      rotate_left 1
      · (simp only [List.getElem?_toArray, List.getElem?_cons_succ, List.getElem?_cons_zero]; rfl)
      · refine ⟨by rfl, fun W hW => ⟨35, #[.string (txt bs), .int .i64 o28, .int .i64 4], ?_, HU28.out W⟩⟩
        first | kernel_rfl | (go_simp; done) | rfl
      try simp only [Act.put, List.setIfInBounds_toArray, List.set_cons_zero, List.set_cons_succ]
      refine wpAnyK_take (i := 5) (oi := ?_) (v := ?_) ?_ (by kernel_rfl) (by kernel_rfl) (by kernel_rfl) (fun _ _ _ h => h) (by decide) ?_ HS.out (fun _ => trivial) ?_
      rotate_left 2
      · (simp only [List.getElem?_toArray, List.getElem?_cons_succ, List.getElem?_cons_zero]; rfl)
      · (first | exact Or.inr ⟨by rfl, rfl⟩ | (refine Or.inl ⟨by rfl, ?_⟩; intro W hSw; clear hSw; go_simp; try with_reducible rfl))
      try simp only [Act.put, List.setIfInBounds_toArray, List.set_cons_zero, List.set_cons_succ]
      refine wpAnyK_take (i := 6) (oi := ?_) (v := ?_) ?_ (by kernel_rfl) (by kernel_rfl) (by kernel_rfl) (fun _ _ _ h => h) (by decide) ?_ HS.out (fun _ => trivial) ?_
      rotate_left 2
      · (simp only [List.getElem?_toArray, List.getElem?_cons_succ, List.getElem?_cons_zero]; rfl)
      · (first | exact Or.inr ⟨by rfl, rfl⟩ | (refine Or.inl ⟨by rfl, ?_⟩; intro W hSw; clear hSw; go_simp; try with_reducible rfl))
      try simp only [Act.put, List.setIfInBounds_toArray, List.set_cons_zero, List.set_cons_succ]
      refine wpAnyK_take (i := 7) (oi := ?_) (v := ?_) ?_ (by kernel_rfl) (by kernel_rfl) (by kernel_rfl) (fun _ _ _ h => h) (by decide) ?_ HS.out (fun _ => trivial) ?_
      rotate_left 2
      · (simp only [List.getElem?_toArray, List.getElem?_cons_succ, List.getElem?_cons_zero]; rfl)
      · (first | exact Or.inr ⟨by rfl, rfl⟩ | (refine Or.inl ⟨by rfl, ?_⟩; intro W hSw; have hq0 := HC.out W hSw; clear hSw; go_simp; try with_reducible rfl))
      try simp only [Act.put, List.setIfInBounds_toArray, List.set_cons_zero, List.set_cons_succ]
      refine wpAnyK_take (i := 8) (oi := ?_) (v := ?_) ?_ (by kernel_rfl) (by kernel_rfl) (by kernel_rfl) (fun _ _ _ h => h) (by decide) ?_ HS.out (fun _ => trivial) ?_
      rotate_left 2
      · (simp only [List.getElem?_toArray, List.getElem?_cons_succ, List.getElem?_cons_zero]; rfl)
      · (first | exact Or.inr ⟨by rfl, rfl⟩ | (refine Or.inl ⟨by rfl, ?_⟩; intro W hSw; clear hSw; go_simp; try with_reducible rfl))
      try simp only [Act.put, List.setIfInBounds_toArray, List.set_cons_zero, List.set_cons_succ]
      refine wpAnyK_takeQ (i := 9) (oi := ?_) (v := .int .i64 x32) ?_ (by kernel_rfl) (by kernel_rfl) (by kernel_rfl) (fun _ _ _ h => h) (by decide) ?_ HS.out (fun _ => trivial) ?_
      rotate_left 1
      · (simp only [List.getElem?_toArray, List.getElem?_cons_succ, List.getElem?_cons_zero]; rfl)
      · refine ⟨by rfl, fun W hW => ⟨35, #[.string (txt bs), .int .i64 o32, .int .i64 4], ?_, HU32.out W⟩⟩
        first | kernel_rfl | (go_simp; done) | rfl
      try simp only [Act.put, List.setIfInBounds_toArray, List.set_cons_zero, List.set_cons_succ]
      refine wpAnyK_take (i := 10) (oi := ?_) (v := ?_) ?_ (by kernel_rfl) (by kernel_rfl) (by kernel_rfl) (fun _ _ _ h => h) (by decide) ?_ HS.out (fun _ => trivial) ?_
      rotate_left 2
      · (simp only [List.getElem?_toArray, List.getElem?_cons_succ, List.getElem?_cons_zero]; rfl)
      · (first | exact Or.inr ⟨by rfl, rfl⟩ | (refine Or.inl ⟨by rfl, ?_⟩; intro W hSw; clear hSw; go_simp; try with_reducible rfl))
      try simp only [Act.put, List.setIfInBounds_toArray, List.set_cons_zero, List.set_cons_succ]
      refine wpAnyK_take (i := 11) (oi := ?_) (v := ?_) ?_ (by kernel_rfl) (by kernel_rfl) (by kernel_rfl) (fun _ _ _ h => h) (by decide) ?_ HS.out (fun _ => trivial) ?_
      rotate_left 2
      · (simp only [List.getElem?_toArray, List.getElem?_cons_succ, List.getElem?_cons_zero]; rfl)
      · (first | exact Or.inr ⟨by rfl, rfl⟩ | (refine Or.inl ⟨by rfl, ?_⟩; intro W hSw; clear hSw; go_simp; try with_reducible rfl))
      try simp only [Act.put, List.setIfInBounds_toArray, List.set_cons_zero, List.set_cons_succ]
      refine wpAnyK_take (i := 12) (oi := ?_) (v := ?_) ?_ (by kernel_rfl) (by kernel_rfl) (by kernel_rfl) (fun _ _ _ h => h) (by decide) ?_ HS.out (fun _ => trivial) ?_
      rotate_left 2
      · (simp only [List.getElem?_toArray, List.getElem?_cons_succ, List.getElem?_cons_zero]; rfl)
      · (first | exact Or.inr ⟨by rfl, rfl⟩ | (refine Or.inl ⟨by rfl, ?_⟩; intro W hSw; have hq0 := HC.out W hSw; clear hSw; go_simp; try with_reducible rfl))
      try simp only [Act.put, List.setIfInBounds_toArray, List.set_cons_zero, List.set_cons_succ]
      refine wpAnyK_take (i := 13) (oi := ?_) (v := ?_) ?_ (by kernel_rfl) (by kernel_rfl) (by kernel_rfl) (fun _ _ _ h => h) (by decide) ?_ HS.out (fun _ => trivial) ?_
      rotate_left 2
      · (simp only [List.getElem?_toArray, List.getElem?_cons_succ, List.getElem?_cons_zero]; rfl)
      · (first | exact Or.inr ⟨by rfl, rfl⟩ | (refine Or.inl ⟨by rfl, ?_⟩; intro W hSw; clear hSw; go_simp; try with_reducible rfl))
      try simp only [Act.put, List.setIfInBounds_toArray, List.set_cons_zero, List.set_cons_succ]
      refine wpAnyK_takeQ (i := 14) (oi := ?_) (v := .int .i64 x36) ?_ (by kernel_rfl) (by kernel_rfl) (by kernel_rfl) (fun _ _ _ h => h) (by decide) ?_ HS.out (fun _ => trivial) ?_
      rotate_left 1
      · (simp only [List.getElem?_toArray, List.getElem?_cons_succ, List.getElem?_cons_zero]; rfl)
      · refine ⟨by rfl, fun W hW => ⟨35, #[.string (txt bs), .int .i64 o36, .int .i64 4], ?_, HU36.out W⟩⟩
        first | kernel_rfl | (go_simp; done) | rfl
      try simp only [Act.put, List.setIfInBounds_toArray, List.set_cons_zero, List.set_cons_succ]
      refine wpAnyK_take (i := 15) (oi := ?_) (v := ?_) ?_ (by kernel_rfl) (by kernel_rfl) (by kernel_rfl) (fun _ _ _ h => h) (by decide) ?_ HS.out (fun _ => trivial) ?_
      rotate_left 2
      · (simp only [List.getElem?_toArray, List.getElem?_cons_succ, List.getElem?_cons_zero]; rfl)
      · (first | exact Or.inr ⟨by rfl, rfl⟩ | (refine Or.inl ⟨by rfl, ?_⟩; intro W hSw; clear hSw; go_simp; try with_reducible rfl))
      try simp only [Act.put, List.setIfInBounds_toArray, List.set_cons_zero, List.set_cons_succ]
      refine wpAnyK_take (i := 16) (oi := ?_) (v := ?_) ?_ (by kernel_rfl) (by kernel_rfl) (by kernel_rfl) (fun _ _ _ h => h) (by decide) ?_ HS.out (fun _ => trivial) ?_
      rotate_left 2
      · (simp only [List.getElem?_toArray, List.getElem?_cons_succ, List.getElem?_cons_zero]; rfl)
      · (first | exact Or.inr ⟨by rfl, rfl⟩ | (refine Or.inl ⟨by rfl, ?_⟩; intro W hSw; clear hSw; go_simp; try with_reducible rfl))
      try simp only [Act.put, List.setIfInBounds_toArray, List.set_cons_zero, List.set_cons_succ]
      refine wpAnyK_take (i := 17) (oi := ?_) (v := ?_) ?_ (by kernel_rfl) (by kernel_rfl) (by kernel_rfl) (fun _ _ _ h => h) (by decide) ?_ HS.out (fun _ => trivial) ?_
      rotate_left 2
      · (simp only [List.getElem?_toArray, List.getElem?_cons_succ, List.getElem?_cons_zero]; rfl)
      · (first | exact Or.inr ⟨by rfl, rfl⟩ | (refine Or.inl ⟨by rfl, ?_⟩; intro W hSw; clear hSw; go_simp; try with_reducible rfl))
      try simp only [Act.put, List.setIfInBounds_toArray, List.set_cons_zero, List.set_cons_succ]
      refine wpAnyK_done (by kernel_rfl) ?_ _
      refine NoPanic.normal ?_
      clear HC HS
      obtain ⟨w4, hw4⟩ : ∃ q, w3.drew = q := ⟨_, rfl⟩
      have HE4 := Lib.hid hw4
      replace HB := Lib.hid (show Below w.heap.size w w4 from by rw [← hw4]; exact HB.out.drew)
      replace H0 := Lib.hid (show w4.heap[w.heap.size]? = some (.cells #[.int .i64 o, .int .i64 z] 26 (0, 0)) from by rw [← hw4]; exact H0.out)
      replace H1 := Lib.hid (show w4.heap[w.heap.size + 1]? = some (.cells #[.int .i64 0, .slice none 0 0, .slice none 0 0] 32 (0, 0)) from by rw [← hw4]; exact H1.out)
      replace H2 := Lib.hid (show w4.heap[w.heap.size + 2]? = some (.cells #[.int .i64 0, .slice none 0 0, .slice none 0 0] 32 (0, 0)) from by rw [← hw4]; exact H2.out)
      replace H3 := Lib.hid (show w4.heap[w.heap.size + 3]? = some (.cells #[.int .i64 x16, .slice none 0 0, .slice none 0 0] 32 (0, 0)) from by rw [← hw4]; exact H3.out)
      clear hw4
      refine (congrArg _ HE4.out).mpr ?_
      rename_i K9 hK9
      refine hK9 _ _ ?_
      exact rexp_mid bs o z x16 x20 x24 x28 x32 x36 w w4 RR HLB hlen (by omega) (by omega) hx16 hx20 hx24 hx28 hx32 hx36 HRE HB H0 H1 H2 H3 _ ⟨rfl, rfl, rfl⟩
    · have d1 : size < 40 := by omega
      have HIN := Lib.hid (fun W => in_yes bs.length rva size W (by omega) (by omega) (by omega) (by omega))
      unfold findE at hR
      rw [if_neg (by omega)] at hR
      simp only at hR
      subst hR
      clear c1 c2 c0
      go_enter Try.func16, Try.ntmps16
      go_upto_region 2 with (fail)
      refine (congrArg _ HE1.out).mpr ?_
      go_wp2_with fail
      refine (HIN.out _).mono ?_
      rintro e w' ⟨rfl, rfl⟩
      have z0 : w1.cell? ⟨w.heap.size + 2, 0, none⟩ = some (.int .i64 0) := by rw [cell_of_row _ _ _ _ _ _ H2.out]; rfl
      have z1 : w1.cell? ⟨w.heap.size + 2, 1, none⟩ = some (.slice none 0 0) := by rw [cell_of_row _ _ _ _ _ _ H2.out]; rfl
      have z2 : w1.cell? ⟨w.heap.size + 2, 2, none⟩ = some (.slice none 0 0) := by rw [cell_of_row _ _ _ _ _ _ H2.out]; rfl
      obtain ⟨w9, hw9⟩ : ∃ w9, w1.setRow (w.heap.size + 1) #[.int .i64 0, .slice none 0 0, .slice none 0 0] = w9 := ⟨_, rfl⟩
      have HE9 := Lib.hid hw9
      have HR9 := Lib.hid (show w9.heap[w.heap.size + 1]? = some (.cells #[.int .i64 0, .slice none 0 0, .slice none 0 0] 32 (0, 0)) from by rw [← hw9]; exact setRow_heap _ _ _ _ _ _ H1.out)
      have HB9 := Lib.hid (show Below w.heap.size w w9 from by rw [← hw9]; exact below_setRow HB.out (Nat.le_succ _) _)
      have k0 : w9.cell? ⟨w.heap.size + 1, 0, none⟩ = some (.int .i64 0) := by rw [cell_of_row _ _ _ _ _ _ HR9.out]; rfl
      have k1 : w9.cell? ⟨w.heap.size + 1, 1, none⟩ = some (.slice none 0 0) := by rw [cell_of_row _ _ _ _ _ _ HR9.out]; rfl
      have k2 : w9.cell? ⟨w.heap.size + 1, 2, none⟩ = some (.slice none 0 0) := by rw [cell_of_row _ _ _ _ _ _ HR9.out]; rfl
      clear hw9
      go_upto_region 5 with (fail)
      go_wp2_with (first | (refine wpList_store_row rfl 32 _ _ rfl (w.heap.size + 1) #[.int .i64 0, .slice none 0 0, .slice none 0 0] rfl rfl 32 #[.int .i64 0, .slice none 0 0, .slice none 0 0] H1.out expInfo rfl expOne2 ?_; refine (congrArg _ HE9.out).mpr ?_) | fail)
      refine bodyPost_ret (v := .tuple #[.agg #[.int .i64 0, .slice none 0 0, .slice none 0 0], .int .i64 11]) (by simp [results, Try.results16, go_sem, k0, k1, k2]) rfl ⟨?_, HB9.out⟩
      exact rfl
  · have HIN := Lib.hid (fun W => in_no bs.length rva size W (by omega) (by omega) (by omega))
    unfold findE at hR
    rw [if_neg (by omega)] at hR
    simp only at hR
    subst hR
    clear c1 c0
    go_enter Try.func16, Try.ntmps16
    go_upto_region 2 with (fail)
    refine (congrArg _ HE1.out).mpr ?_
    go_wp2_with fail
    refine (HIN.out _).mono ?_
    rintro e w' ⟨rfl, rfl⟩
    have z0 : w1.cell? ⟨w.heap.size + 2, 0, none⟩ = some (.int .i64 0) := by rw [cell_of_row _ _ _ _ _ _ H2.out]; rfl
    have z1 : w1.cell? ⟨w.heap.size + 2, 1, none⟩ = some (.slice none 0 0) := by rw [cell_of_row _ _ _ _ _ _ H2.out]; rfl
    have z2 : w1.cell? ⟨w.heap.size + 2, 2, none⟩ = some (.slice none 0 0) := by rw [cell_of_row _ _ _ _ _ _ H2.out]; rfl
    obtain ⟨w9, hw9⟩ : ∃ w9, w1.setRow (w.heap.size + 1) #[.int .i64 0, .slice none 0 0, .slice none 0 0] = w9 := ⟨_, rfl⟩
    have HE9 := Lib.hid hw9
    have HR9 := Lib.hid (show w9.heap[w.heap.size + 1]? = some (.cells #[.int .i64 0, .slice none 0 0, .slice none 0 0] 32 (0, 0)) from by rw [← hw9]; exact setRow_heap _ _ _ _ _ _ H1.out)
    have HB9 := Lib.hid (show Below w.heap.size w w9 from by rw [← hw9]; exact below_setRow HB.out (Nat.le_succ _) _)
    have k0 : w9.cell? ⟨w.heap.size + 1, 0, none⟩ = some (.int .i64 0) := by rw [cell_of_row _ _ _ _ _ _ HR9.out]; rfl
    have k1 : w9.cell? ⟨w.heap.size + 1, 1, none⟩ = some (.slice none 0 0) := by rw [cell_of_row _ _ _ _ _ _ HR9.out]; rfl
    have k2 : w9.cell? ⟨w.heap.size + 1, 2, none⟩ = some (.slice none 0 0) := by rw [cell_of_row _ _ _ _ _ _ HR9.out]; rfl
    clear hw9
    go_upto_region 5 with (fail)
    go_wp2_with (first | (refine wpList_store_row rfl 32 _ _ rfl (w.heap.size + 1) #[.int .i64 0, .slice none 0 0, .slice none 0 0] rfl rfl 32 #[.int .i64 0, .slice none 0 0, .slice none 0 0] H1.out expInfo rfl expOne2 ?_; refine (congrArg _ HE9.out).mpr ?_) | fail)
    refine bodyPost_ret (v := .tuple #[.agg #[.int .i64 0, .slice none 0 0, .slice none 0 0], .int .i64 11]) (by simp [results, Try.results16, go_sem, k0, k1, k2]) rfl ⟨?_, HB9.out⟩
    exact rfl
end Go.Proofs.Ytbjabncefhgefaa
