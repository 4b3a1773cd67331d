/- law 7's At: an image's bytes with a directory of what it offers. -/
import Derived.Test.YtbjabncefhgefaaExpH
import Derived.Test.YtbjabncefhgefaaOwnT
import Derived.Test.YtbjabncefhgefaaExpM
import Derived.Test.YtbjabncefhgefaaExpC
import Derived.Deep.RegionWith
import Derived.Test.YtbjabncefhgefaaPieces
namespace Go.Proofs.Ytbjabncefhgefaa
open Go.ChangeShapes Go.WideShapes Go.ChangeAt Go.RowKit
set_option linter.unusedVariables false
set_option linter.unusedSimpArgs false

/-- Texts in a slice. -/
def sC (t : List Nat) : List Value := [.string (txt t)]
theorem sC_len (t : List Nat) : (sC t).length = 1 := rfl
theorem SlT.st {w : World} {F : Option Addr} {fs : List (List Nat)} (h : SlT sC 1 w F fs) {k : Nat} (hk : k < fs.length) : ∃ b off, F = some ⟨b, off, none⟩ ∧ b < w.heap.size ∧ w.cell? ⟨b, off + k, none⟩ = some (.string (txt fs[k])) := by
  rcases h with h | ⟨b, off, rfl, hlt, hc⟩
  · rw [h] at hk; simp at hk
  · exact ⟨b, off, rfl, hlt, by have := hc k hk 0 _ (by simp [sC]; rfl); simpa using this⟩

def pointK (S : ByteArray) (k : Nat) : Bool := (List.range k).any fun j => PlainAid.bt S j == 46
theorem pointK_succ (S : ByteArray) (k : Nat) : pointK S (k + 1) = (pointK S k || (PlainAid.bt S k == 46)) := by
  unfold pointK; rw [List.range_succ, List.any_append]; simp
theorem pointK_all {s : List Nat} (h : Lb s) : pointK (txt s) (txt s).size = s.contains 46 := by
  rw [txt_size, Bool.eq_iff_iff]
  unfold pointK
  rw [List.any_eq_true, List.contains_iff_mem]
  constructor
  · rintro ⟨j, hj, h1⟩
    have hj' : j < s.length := by simpa using hj
    rw [bt_txt h hj', lF_get hj'] at h1
    have : s[j] = 46 := by
      have := eq_of_beq h1
      omega
    rw [← this]; exact List.getElem_mem hj'
  · intro h1
    obtain ⟨j, hj, h2⟩ := List.mem_iff_getElem.mp h1
    refine ⟨j, by simpa using hj, ?_⟩
    rw [bt_txt h hj, lF_get hj, h2]
    rfl

/-- One function's place, and what is laid behind for it. -/
def fStep (rows : Nat) (b : List Nat) (i : Nat) (s : List Nat) : List Nat :=
  if s.contains 46 then putL ((b ++ s) ++ [0]) (rows + 4 * i) 4 b.length else putL b (rows + 4 * i) 4 (if s = [] then 0 else 64 + i)
def atF (rows : Nat) : List (List Nat) → Nat → List Nat → List Nat
  | [], _, b => b
  | s :: r, i, b => atF rows r (i + 1) (fStep rows b i s)
def nStep (r1 r2 n : Nat) (b : List Nat) (i : Nat) (s : List Nat) : List Nat := (putL (putL b (r1 + 4 * i) 4 b.length) (r2 + 2 * i) 2 (i % max n 1) ++ s) ++ [0]
def atN (r1 r2 n : Nat) : List (List Nat) → Nat → List Nat → List Nat
  | [], _, b => b
  | s :: r, i, b => atN r1 r2 n r (i + 1) (nStep r1 r2 n b i s)
/-- The head of the directory. -/
def atH (start n m base : Nat) : List Nat :=
  putL (putL (putL (putL (putL (putL (List.replicate (start + 40 + 4 * n + 6 * m) 0) (start + 16) 4 base) (start + 20) 4 n) (start + 24) 4 m) (start + 28) 4 (start + 40)) (start + 32) 4 (start + 40 + 4 * n)) (start + 36) 4 (start + 40 + 4 * n + 4 * m)
def atB (start : Nat) (fs : List (List Nat)) (m base : Nat) : List Nat := atF (start + 40) fs 0 (atH start fs.length m base)
def atE (start : Nat) (fs ns : List (List Nat)) (base : Nat) : List Nat := atN (start + 40 + 4 * fs.length) (start + 40 + 4 * fs.length + 4 * ns.length) fs.length ns 0 (atB start fs ns.length base)

theorem txt_nil' {t : List Nat} (h : Lb t) : ((txt t).toList == ([] : List UInt8)) = decide (t = []) := by
  rw [Bool.eq_iff_iff, beq_iff_eq, decide_eq_true_iff, ByteArray.toList_eq]
  constructor
  · intro q
    have h1 : (txt t).size = 0 := by
      have h2 := congrArg List.length q
      rw [List.length_nil, Array.length_toList] at h2
      exact h2
    rw [txt_size] at h1
    exact List.eq_nil_of_length_eq_zero h1
  · intro q; subst q; rfl
theorem src_zero' (w : World) : Src Try.prog 1 24 (.slice (some ⟨w.heap.size, 0, none⟩) 1 1) 1 (bytesL 1 (lF [0])) (w.alloc (.cells #[.int .u8 0] 5)) :=
  src_sl (.inr ⟨w.heap.size, 0, rfl, by simp, fun i hi => by
    obtain rfl : i = 0 := by omega
    simp [go_sem, lF]⟩)
def TxOk (s : List Nat) : Prop := Lb s ∧ s.length ≤ 200

noncomputable def bodyA : Code := (Try.f28.body).getD .skip
/-- What At is to come to. -/
def QA (start : Nat) (B2l : Nat) (B3 : List Nat) (w : World) : Exit → Act → World → Prop :=
  bodyPost Try.prog Try.f28 fun e w' => ∃ g c, e = .returned (.tuple #[.slice (some ⟨g, 0, none⟩) B3.length c, .agg #[.int .i64 start, .int .i64 ((B2l : Int) - (start : Int))]]) ∧ OwnD w' w.heap.size g c B3 ∧ Below w.heap.size w w'
set_option maxRecDepth 100000
theorem range167 {α : Type} (f : Nat → α) : (List.range 167).map f = (f 0 :: f 1 :: f 2 :: f 3 :: f 4 :: f 5 :: f 6 :: f 7 :: f 8 :: f 9 :: f 10 :: f 11 :: f 12 :: f 13 :: f 14 :: f 15 :: f 16 :: f 17 :: f 18 :: f 19 :: f 20 :: f 21 :: f 22 :: f 23 :: f 24 :: f 25 :: f 26 :: f 27 :: f 28 :: f 29 :: f 30 :: f 31 :: f 32 :: f 33 :: f 34 :: f 35 :: f 36 :: f 37 :: f 38 :: f 39 :: f 40 :: f 41 :: f 42 :: f 43 :: f 44 :: f 45 :: f 46 :: f 47 :: f 48 :: f 49 :: f 50 :: f 51 :: f 52 :: f 53 :: f 54 :: f 55 :: f 56 :: f 57 :: f 58 :: f 59 :: f 60 :: f 61 :: f 62 :: f 63 :: f 64 :: f 65 :: f 66 :: f 67 :: f 68 :: f 69 :: f 70 :: f 71 :: f 72 :: f 73 :: f 74 :: f 75 :: f 76 :: f 77 :: f 78 :: f 79 :: f 80 :: f 81 :: f 82 :: f 83 :: f 84 :: f 85 :: f 86 :: f 87 :: f 88 :: f 89 :: f 90 :: f 91 :: f 92 :: f 93 :: f 94 :: f 95 :: f 96 :: f 97 :: f 98 :: f 99 :: f 100 :: f 101 :: f 102 :: f 103 :: f 104 :: f 105 :: f 106 :: f 107 :: f 108 :: f 109 :: f 110 :: f 111 :: f 112 :: f 113 :: f 114 :: f 115 :: f 116 :: f 117 :: f 118 :: f 119 :: f 120 :: f 121 :: f 122 :: f 123 :: f 124 :: f 125 :: f 126 :: f 127 :: f 128 :: f 129 :: f 130 :: f 131 :: f 132 :: f 133 :: f 134 :: f 135 :: f 136 :: f 137 :: f 138 :: f 139 :: f 140 :: f 141 :: f 142 :: f 143 :: f 144 :: f 145 :: f 146 :: f 147 :: f 148 :: f 149 :: f 150 :: f 151 :: f 152 :: f 153 :: f 154 :: f 155 :: f 156 :: f 157 :: f 158 :: f 159 :: f 160 :: f 161 :: f 162 :: f 163 :: f 164 :: f 165 :: f 166 :: []) := rfl
theorem hopen_0_2_9_10_11_12_13_14 {a : Act} {v0 v2 v9 v10 v11 v12 v13 v14 : Value} (h : Has 167 [0, 2, 9, 10, 11, 12, 13, 14] [v0, v2, v9, v10, v11, v12, v13, v14] a) : ∃ u : Nat → Value, a = ⟨(v0 :: u 1 :: v2 :: u 3 :: u 4 :: u 5 :: u 6 :: u 7 :: u 8 :: v9 :: v10 :: v11 :: v12 :: v13 :: v14 :: u 15 :: u 16 :: u 17 :: u 18 :: u 19 :: u 20 :: u 21 :: u 22 :: u 23 :: u 24 :: u 25 :: u 26 :: u 27 :: u 28 :: u 29 :: u 30 :: u 31 :: u 32 :: u 33 :: u 34 :: u 35 :: u 36 :: u 37 :: u 38 :: u 39 :: u 40 :: u 41 :: u 42 :: u 43 :: u 44 :: u 45 :: u 46 :: u 47 :: u 48 :: u 49 :: u 50 :: u 51 :: u 52 :: u 53 :: u 54 :: u 55 :: u 56 :: u 57 :: u 58 :: u 59 :: u 60 :: u 61 :: u 62 :: u 63 :: u 64 :: u 65 :: u 66 :: u 67 :: u 68 :: u 69 :: u 70 :: u 71 :: u 72 :: u 73 :: u 74 :: u 75 :: u 76 :: u 77 :: u 78 :: u 79 :: u 80 :: u 81 :: u 82 :: u 83 :: u 84 :: u 85 :: u 86 :: u 87 :: u 88 :: u 89 :: u 90 :: u 91 :: u 92 :: u 93 :: u 94 :: u 95 :: u 96 :: u 97 :: u 98 :: u 99 :: u 100 :: u 101 :: u 102 :: u 103 :: u 104 :: u 105 :: u 106 :: u 107 :: u 108 :: u 109 :: u 110 :: u 111 :: u 112 :: u 113 :: u 114 :: u 115 :: u 116 :: u 117 :: u 118 :: u 119 :: u 120 :: u 121 :: u 122 :: u 123 :: u 124 :: u 125 :: u 126 :: u 127 :: u 128 :: u 129 :: u 130 :: u 131 :: u 132 :: u 133 :: u 134 :: u 135 :: u 136 :: u 137 :: u 138 :: u 139 :: u 140 :: u 141 :: u 142 :: u 143 :: u 144 :: u 145 :: u 146 :: u 147 :: u 148 :: u 149 :: u 150 :: u 151 :: u 152 :: u 153 :: u 154 :: u 155 :: u 156 :: u 157 :: u 158 :: u 159 :: u 160 :: u 161 :: u 162 :: u 163 :: u 164 :: u 165 :: u 166 :: []).toArray, []⟩ := by
  obtain ⟨⟨l⟩, d⟩ := a
  obtain ⟨hs, hd, hl⟩ := h
  have hs' : l.length = 167 := hs
  have hd' : d = [] := hd
  subst hd'
  simp only [at_, List.map_cons, List.map_nil, List.cons.injEq, and_true] at hl
  obtain ⟨e0, e2, e9, e10, e11, e12, e13, e14⟩ := hl
  refine ⟨sl ⟨⟨l⟩, []⟩, ?_⟩
  have key := open_list l [] 167 hs'
  rw [range167] at key
  have u0 : sl ⟨⟨l⟩, []⟩ 0 = v0 := by unfold sl; rw [e0]; rfl
  have u2 : sl ⟨⟨l⟩, []⟩ 2 = v2 := by unfold sl; rw [e2]; rfl
  have u9 : sl ⟨⟨l⟩, []⟩ 9 = v9 := by unfold sl; rw [e9]; rfl
  have u10 : sl ⟨⟨l⟩, []⟩ 10 = v10 := by unfold sl; rw [e10]; rfl
  have u11 : sl ⟨⟨l⟩, []⟩ 11 = v11 := by unfold sl; rw [e11]; rfl
  have u12 : sl ⟨⟨l⟩, []⟩ 12 = v12 := by unfold sl; rw [e12]; rfl
  have u13 : sl ⟨⟨l⟩, []⟩ 13 = v13 := by unfold sl; rw [e13]; rfl
  have u14 : sl ⟨⟨l⟩, []⟩ 14 = v14 := by unfold sl; rw [e14]; rfl
  have k2 : l = (v0 :: sl ⟨⟨l⟩, []⟩ 1 :: v2 :: sl ⟨⟨l⟩, []⟩ 3 :: sl ⟨⟨l⟩, []⟩ 4 :: sl ⟨⟨l⟩, []⟩ 5 :: sl ⟨⟨l⟩, []⟩ 6 :: sl ⟨⟨l⟩, []⟩ 7 :: sl ⟨⟨l⟩, []⟩ 8 :: v9 :: v10 :: v11 :: v12 :: v13 :: v14 :: sl ⟨⟨l⟩, []⟩ 15 :: sl ⟨⟨l⟩, []⟩ 16 :: sl ⟨⟨l⟩, []⟩ 17 :: sl ⟨⟨l⟩, []⟩ 18 :: sl ⟨⟨l⟩, []⟩ 19 :: sl ⟨⟨l⟩, []⟩ 20 :: sl ⟨⟨l⟩, []⟩ 21 :: sl ⟨⟨l⟩, []⟩ 22 :: sl ⟨⟨l⟩, []⟩ 23 :: sl ⟨⟨l⟩, []⟩ 24 :: sl ⟨⟨l⟩, []⟩ 25 :: sl ⟨⟨l⟩, []⟩ 26 :: sl ⟨⟨l⟩, []⟩ 27 :: sl ⟨⟨l⟩, []⟩ 28 :: sl ⟨⟨l⟩, []⟩ 29 :: sl ⟨⟨l⟩, []⟩ 30 :: sl ⟨⟨l⟩, []⟩ 31 :: sl ⟨⟨l⟩, []⟩ 32 :: sl ⟨⟨l⟩, []⟩ 33 :: sl ⟨⟨l⟩, []⟩ 34 :: sl ⟨⟨l⟩, []⟩ 35 :: sl ⟨⟨l⟩, []⟩ 36 :: sl ⟨⟨l⟩, []⟩ 37 :: sl ⟨⟨l⟩, []⟩ 38 :: sl ⟨⟨l⟩, []⟩ 39 :: sl ⟨⟨l⟩, []⟩ 40 :: sl ⟨⟨l⟩, []⟩ 41 :: sl ⟨⟨l⟩, []⟩ 42 :: sl ⟨⟨l⟩, []⟩ 43 :: sl ⟨⟨l⟩, []⟩ 44 :: sl ⟨⟨l⟩, []⟩ 45 :: sl ⟨⟨l⟩, []⟩ 46 :: sl ⟨⟨l⟩, []⟩ 47 :: sl ⟨⟨l⟩, []⟩ 48 :: sl ⟨⟨l⟩, []⟩ 49 :: sl ⟨⟨l⟩, []⟩ 50 :: sl ⟨⟨l⟩, []⟩ 51 :: sl ⟨⟨l⟩, []⟩ 52 :: sl ⟨⟨l⟩, []⟩ 53 :: sl ⟨⟨l⟩, []⟩ 54 :: sl ⟨⟨l⟩, []⟩ 55 :: sl ⟨⟨l⟩, []⟩ 56 :: sl ⟨⟨l⟩, []⟩ 57 :: sl ⟨⟨l⟩, []⟩ 58 :: sl ⟨⟨l⟩, []⟩ 59 :: sl ⟨⟨l⟩, []⟩ 60 :: sl ⟨⟨l⟩, []⟩ 61 :: sl ⟨⟨l⟩, []⟩ 62 :: sl ⟨⟨l⟩, []⟩ 63 :: sl ⟨⟨l⟩, []⟩ 64 :: sl ⟨⟨l⟩, []⟩ 65 :: sl ⟨⟨l⟩, []⟩ 66 :: sl ⟨⟨l⟩, []⟩ 67 :: sl ⟨⟨l⟩, []⟩ 68 :: sl ⟨⟨l⟩, []⟩ 69 :: sl ⟨⟨l⟩, []⟩ 70 :: sl ⟨⟨l⟩, []⟩ 71 :: sl ⟨⟨l⟩, []⟩ 72 :: sl ⟨⟨l⟩, []⟩ 73 :: sl ⟨⟨l⟩, []⟩ 74 :: sl ⟨⟨l⟩, []⟩ 75 :: sl ⟨⟨l⟩, []⟩ 76 :: sl ⟨⟨l⟩, []⟩ 77 :: sl ⟨⟨l⟩, []⟩ 78 :: sl ⟨⟨l⟩, []⟩ 79 :: sl ⟨⟨l⟩, []⟩ 80 :: sl ⟨⟨l⟩, []⟩ 81 :: sl ⟨⟨l⟩, []⟩ 82 :: sl ⟨⟨l⟩, []⟩ 83 :: sl ⟨⟨l⟩, []⟩ 84 :: sl ⟨⟨l⟩, []⟩ 85 :: sl ⟨⟨l⟩, []⟩ 86 :: sl ⟨⟨l⟩, []⟩ 87 :: sl ⟨⟨l⟩, []⟩ 88 :: sl ⟨⟨l⟩, []⟩ 89 :: sl ⟨⟨l⟩, []⟩ 90 :: sl ⟨⟨l⟩, []⟩ 91 :: sl ⟨⟨l⟩, []⟩ 92 :: sl ⟨⟨l⟩, []⟩ 93 :: sl ⟨⟨l⟩, []⟩ 94 :: sl ⟨⟨l⟩, []⟩ 95 :: sl ⟨⟨l⟩, []⟩ 96 :: sl ⟨⟨l⟩, []⟩ 97 :: sl ⟨⟨l⟩, []⟩ 98 :: sl ⟨⟨l⟩, []⟩ 99 :: sl ⟨⟨l⟩, []⟩ 100 :: sl ⟨⟨l⟩, []⟩ 101 :: sl ⟨⟨l⟩, []⟩ 102 :: sl ⟨⟨l⟩, []⟩ 103 :: sl ⟨⟨l⟩, []⟩ 104 :: sl ⟨⟨l⟩, []⟩ 105 :: sl ⟨⟨l⟩, []⟩ 106 :: sl ⟨⟨l⟩, []⟩ 107 :: sl ⟨⟨l⟩, []⟩ 108 :: sl ⟨⟨l⟩, []⟩ 109 :: sl ⟨⟨l⟩, []⟩ 110 :: sl ⟨⟨l⟩, []⟩ 111 :: sl ⟨⟨l⟩, []⟩ 112 :: sl ⟨⟨l⟩, []⟩ 113 :: sl ⟨⟨l⟩, []⟩ 114 :: sl ⟨⟨l⟩, []⟩ 115 :: sl ⟨⟨l⟩, []⟩ 116 :: sl ⟨⟨l⟩, []⟩ 117 :: sl ⟨⟨l⟩, []⟩ 118 :: sl ⟨⟨l⟩, []⟩ 119 :: sl ⟨⟨l⟩, []⟩ 120 :: sl ⟨⟨l⟩, []⟩ 121 :: sl ⟨⟨l⟩, []⟩ 122 :: sl ⟨⟨l⟩, []⟩ 123 :: sl ⟨⟨l⟩, []⟩ 124 :: sl ⟨⟨l⟩, []⟩ 125 :: sl ⟨⟨l⟩, []⟩ 126 :: sl ⟨⟨l⟩, []⟩ 127 :: sl ⟨⟨l⟩, []⟩ 128 :: sl ⟨⟨l⟩, []⟩ 129 :: sl ⟨⟨l⟩, []⟩ 130 :: sl ⟨⟨l⟩, []⟩ 131 :: sl ⟨⟨l⟩, []⟩ 132 :: sl ⟨⟨l⟩, []⟩ 133 :: sl ⟨⟨l⟩, []⟩ 134 :: sl ⟨⟨l⟩, []⟩ 135 :: sl ⟨⟨l⟩, []⟩ 136 :: sl ⟨⟨l⟩, []⟩ 137 :: sl ⟨⟨l⟩, []⟩ 138 :: sl ⟨⟨l⟩, []⟩ 139 :: sl ⟨⟨l⟩, []⟩ 140 :: sl ⟨⟨l⟩, []⟩ 141 :: sl ⟨⟨l⟩, []⟩ 142 :: sl ⟨⟨l⟩, []⟩ 143 :: sl ⟨⟨l⟩, []⟩ 144 :: sl ⟨⟨l⟩, []⟩ 145 :: sl ⟨⟨l⟩, []⟩ 146 :: sl ⟨⟨l⟩, []⟩ 147 :: sl ⟨⟨l⟩, []⟩ 148 :: sl ⟨⟨l⟩, []⟩ 149 :: sl ⟨⟨l⟩, []⟩ 150 :: sl ⟨⟨l⟩, []⟩ 151 :: sl ⟨⟨l⟩, []⟩ 152 :: sl ⟨⟨l⟩, []⟩ 153 :: sl ⟨⟨l⟩, []⟩ 154 :: sl ⟨⟨l⟩, []⟩ 155 :: sl ⟨⟨l⟩, []⟩ 156 :: sl ⟨⟨l⟩, []⟩ 157 :: sl ⟨⟨l⟩, []⟩ 158 :: sl ⟨⟨l⟩, []⟩ 159 :: sl ⟨⟨l⟩, []⟩ 160 :: sl ⟨⟨l⟩, []⟩ 161 :: sl ⟨⟨l⟩, []⟩ 162 :: sl ⟨⟨l⟩, []⟩ 163 :: sl ⟨⟨l⟩, []⟩ 164 :: sl ⟨⟨l⟩, []⟩ 165 :: sl ⟨⟨l⟩, []⟩ 166 :: []) := by
    rw [← u0, ← u2, ← u9, ← u10, ← u11, ← u12, ← u13, ← u14]
    exact key
  exact congrArg (fun x => (⟨⟨x⟩, []⟩ : Act)) k2
end Go.Proofs.Ytbjabncefhgefaa
