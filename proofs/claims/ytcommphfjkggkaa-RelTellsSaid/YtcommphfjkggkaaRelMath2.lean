/- What Parse tells of blocks that were made. -/
import Derived.Test.YtcommphfjkggkaaRelMath
namespace Go.Proofs.Ytcommphfjkggkaa
open Go.ChangeShapes Go.WideShapes Go.ChangeAt Go.RowKit
set_option linter.unusedVariables false

def enc (v : Int) : List Int := [v % 256, v / 256]
theorem enc_get : ∀ (vs : List Int) (i : Nat) (h : i < vs.length), (vs.flatMap enc)[2 * i]? = some (vs[i] % 256) ∧ (vs.flatMap enc)[2 * i + 1]? = some (vs[i] / 256)
  | [], i, h => by simp at h
  | v :: vs, 0, _ => by simp [enc]
  | v :: vs, i + 1, h => by
    have ih := enc_get vs i (by simpa using h)
    rw [List.flatMap_cons, show 2 * (i + 1) + 1 = 2 + (2 * i + 1) by omega, show 2 * (i + 1) = 2 + 2 * i by omega]
    rw [List.getElem?_append_right (by simp [enc]), List.getElem?_append_right (by simp [enc])]
    simp only [enc, List.length_cons, List.length_nil, List.getElem_cons_succ]
    rw [show 2 + 2 * i - (0 + 1 + 1) = 2 * i by omega, show 2 + (2 * i + 1) - (0 + 1 + 1) = 2 * i + 1 by omega]
    exact ih
theorem enc_len : ∀ (vs : List Int), (vs.flatMap enc).length = 2 * vs.length
  | [] => rfl
  | v :: vs => by rw [List.flatMap_cons, List.length_append, enc_len vs, List.length_cons]; simp [enc]; omega

theorem ent_enc (xs : List Site) : xs.flatMap ent = (xs.map numOf).flatMap enc := by
  rw [List.flatMap_map]
  rfl

/-- The entries of a block, with what fills it up. -/
def vsOf (xs : List Site) : List Int := xs.map numOf ++ (if xs.length % 2 = 1 then [0] else [])
theorem pad_enc (xs : List Site) : pad (xs.flatMap ent) = (vsOf xs).flatMap enc := by
  have hl : (xs.flatMap ent).length = 2 * xs.length := by rw [ent_enc, enc_len, List.length_map]
  unfold pad vsOf
  rw [List.flatMap_append, hl, ent_enc]
  by_cases h : xs.length % 2 = 1
  · rw [if_pos (by omega), if_pos h]; rfl
  · rw [if_neg (by omega), if_neg h]; simp
theorem vsOf_len (xs : List Site) : 2 * (vsOf xs).length % 4 = 0 ∧ (vsOf xs).length ≤ xs.length + 1 := by
  unfold vsOf
  rw [List.length_append, List.length_map]
  split <;> simp <;> omega

theorem runN_take (p : Int) : ∀ (l : List Site), runN p l ≤ l.length ∧ ∀ x ∈ l.take (runN p l), x.2 / 4096 = p
  | [] => ⟨Nat.le_refl _, fun x h => by simp [runN] at h⟩
  | y :: l => by
    have ih := runN_take p l
    unfold runN
    by_cases h : y.2 / 4096 = p
    · rw [if_pos h]
      refine ⟨by simp; omega, fun x hx => ?_⟩
      rw [List.take_succ_cons, List.mem_cons] at hx
      rcases hx with rfl | hx
      · exact h
      · exact ih.2 x hx
    · rw [if_neg h]
      exact ⟨by omega, fun x hx => by simp at hx⟩
theorem runN_pos {p : Int} {x : Site} {l : List Site} (h : x.2 / 4096 = p) : 1 ≤ runN p (x :: l) := by
  unfold runN
  rw [if_pos h]
  omega

theorem le4_get {v : Int} {i : Nat} (h : i < 4) : (le4 v)[i]? = some (byteOf v i) := by simp [le4, listF, h]

/-- Sites taken in one behind the other. -/
def addAll (n : Nat) : List Site → List Site → Option (List Site)
  | [], l => some l
  | x :: xs, l => if siteOk n l x then addAll n xs (l ++ [x]) else none
theorem addAll_append (n : Nat) (ys : List Site) : ∀ (xs l : List Site), addAll n (xs ++ ys) l = (addAll n xs l).bind (addAll n ys)
  | [], l => rfl
  | x :: xs, l => by
    show (if siteOk n l x then addAll n (xs ++ ys) (l ++ [x]) else none) = (if siteOk n l x then addAll n xs (l ++ [x]) else none).bind _
    split
    · exact addAll_append n ys xs _
    · rfl
theorem addAll_far (n : Nat) : ∀ (xs l : List Site), Kinds n xs → (l ++ xs).length ≤ 512 → Far (l ++ xs) → addAll n xs l = some (l ++ xs)
  | [], l, _, _, _ => by simp [addAll]
  | x :: xs, l, hk, hl, hf => by
    have hx := hk x (by simp)
    show (if siteOk n l x then addAll n xs (l ++ [x]) else none) = _
    rw [if_pos, addAll_far n xs (l ++ [x]) (fun y hy => hk y (by simp [hy])) (by simpa using hl) (by simpa using hf)]
    · simp
    · refine ⟨by have := relLen_pos hx.1; omega, hx.2.2, by simp at hl; omega, fun y hy => ?_⟩
      have := (List.pairwise_append.1 hf).2.2 y hy x (by simp)
      omega
/-- Sites of kinds that are some. -/
def Some16 (l : List Site) : Prop := ∀ x ∈ l, (x.1 = 3 ∨ x.1 = 10) ∧ 0 ≤ x.2 ∧ x.2 < 16777216

theorem rowV_add (n : Nat) (p : Int) : ∀ (xs l : List Site), Some16 xs → (∀ x ∈ xs, x.2 / 4096 = p) → rowV n (p * 4096) (xs.map numOf) l = addAll n xs l
  | [], l, _, _ => rfl
  | x :: xs, l, hk, hp => by
    have hx := hk x (by simp)
    obtain ⟨s1, s2⟩ := siteOf_num hx.1 p (hp x (by simp))
    show (if numOf x / 4096 = 0 then _ else if siteOk n l (siteOf (p * 4096) (numOf x)) then _ else none) = _
    rw [if_neg s1, s2, rowV_add n p xs (l ++ [x]) (fun y hy => hk y (by simp [hy])) (fun y hy => hp y (by simp [hy]))]
    rfl
theorem rowV_made (n : Nat) (p : Int) (xs l : List Site) (hk : Some16 xs) (hp : ∀ x ∈ xs, x.2 / 4096 = p) : rowV n (p * 4096) (vsOf xs) l = addAll n xs l := by
  unfold vsOf
  split
  · rw [rowV_append, rowV_add n p xs l hk hp]
    cases addAll n xs l with
    | none => rfl
    | some l' => exact rowV_zero n _ _
  · rw [List.append_nil, rowV_add n p xs l hk hp]

/-- A place behind which f has the bytes bs. -/
def Lies (f : Nat → Int) (o : Nat) (bs : List Int) : Prop := ∀ i b, bs[i]? = some b → f (o + i) = b
theorem Lies.left {f : Nat → Int} {o : Nat} {bs cs : List Int} (h : Lies f o (bs ++ cs)) : Lies f o bs := fun i b hb => h i b (by rw [List.getElem?_append_left (List.getElem?_eq_some_iff.1 hb).1]; exact hb)
theorem Lies.right {f : Nat → Int} {o : Nat} {bs cs : List Int} (h : Lies f o (bs ++ cs)) : Lies f (o + bs.length) cs := fun i b hb => by
  have := h (bs.length + i) b (by rw [List.getElem?_append_right (by omega)]; simpa using hb)
  rwa [← Nat.add_assoc] at this
theorem Lies.le4 {f : Nat → Int} {o : Nat} {v : Int} (h : Lies f o (Ytcommphfjkggkaa.le4 v)) (h0 : 0 ≤ v) (h1 : v < 4294967296) : rdF f o 4 = v := by
  rw [rdF_byteOf (v := v) (fun i hi => h i _ (le4_get hi))]
  omega

theorem blocks_made (n : Nat) (f : Nat → Int) (e : Nat) (l : List Site) (hk : Some16 l) (hl : l.length ≤ 100) : ∀ (F k o G : Nat) (l0 : List Site), l.length < k + F → k ≤ l.length → Lies f o (madeB l F k) → e = o + (madeB l F k).length → e < o + G → blocksS n f e G o l0 = addAll n (l.drop k) l0
  | 0, k, o, G, l0, h1, h2, _, _, _ => by omega
  | F + 1, k, o, 0, l0, h1, h2, _, h4, h5 => by omega
  | F + 1, k, o, G + 1, l0, h1, h2, h3, h4, h5 => by
    unfold madeB at h3 h4
    by_cases hlt : k < l.length
    · rw [List.getElem?_eq_getElem hlt] at h3 h4
      simp only at h3 h4
      obtain ⟨x, hx⟩ : ∃ x, l[k] = x := ⟨_, rfl⟩
      rw [hx] at h3 h4
      have hmem : x ∈ l := hx ▸ List.getElem_mem hlt
      obtain ⟨p, hp⟩ : ∃ p, x.2 / 4096 = p := ⟨_, rfl⟩
      rw [hp] at h3 h4
      have hd : l.drop k = x :: l.drop (k + 1) := by rw [List.drop_eq_getElem_cons hlt, hx]
      obtain ⟨r, hrr⟩ : ∃ r, runN p (l.drop k) = r := ⟨_, rfl⟩
      have hr1 : 1 ≤ r := by rw [← hrr, hd]; exact runN_pos hp
      obtain ⟨t1, t2⟩ := runN_take p (l.drop k)
      rw [hrr] at h3 h4 t1 t2
      rw [List.length_drop] at t1
      obtain ⟨xs, hxs⟩ : ∃ xs, (l.drop k).take r = xs := ⟨_, rfl⟩
      have hxl : xs.length = r := by rw [← hxs, List.length_take, List.length_drop]; omega
      have htk : l.drop k = xs ++ l.drop (k + r) := by rw [← hxs, ← List.drop_drop, List.take_append_drop]
      rw [hxs] at h3 h4 t2
      rw [pad_enc] at h3 h4
      obtain ⟨v1, v2⟩ := vsOf_len xs
      have hvl := enc_len (vsOf xs)
      have hbl : (blockB p ((vsOf xs).flatMap enc)).length = 8 + 2 * (vsOf xs).length := by
        unfold blockB
        rw [List.length_append, List.length_append, le4_len, le4_len, hvl]
      rw [List.length_append, hbl] at h4
      have hx0 := hk x hmem
      have hB := h3.left
      have hrest := h3.right
      rw [hbl] at hrest
      unfold blockB at hB
      have hb1 := hB.left.left.le4 (by omega) (by omega)
      have hb2 := hB.left.right
      rw [le4_len, hvl] at hb2
      have hb2 := hb2.le4 (by omega) (by omega)
      have hb3 := hB.right
      rw [List.length_append, le4_len, le4_len] at hb3
      have hhead : headS f o e = some (p * 4096, ((8 + 2 * (vsOf xs).length : Nat) : Int)) := by
        unfold headS
        rw [if_neg (by omega), hb1, hb2, if_neg (by omega)]
        congr 2
      have hrow : rowS n f (p * 4096) (vsOf xs).length (o + 8) l0 = addAll n xs l0 := by
        rw [rowS_rowV n f (p * 4096) (vsOf xs) (o + 8) l0 (fun i hi => by
          obtain ⟨g0, g1⟩ := enc_get (vsOf xs) i hi
          exact rd2 (hb3 _ _ g0) (by have := hb3 _ _ g1; rwa [← Nat.add_assoc] at this))]
        exact rowV_made n p xs l0 (fun y hy => hk y (by rw [← hxs] at hy; exact List.mem_of_mem_drop (List.mem_of_mem_take hy))) t2
      unfold blocksS
      rw [if_neg (by omega), hhead]
      try simp only
      rw [show (((8 + 2 * (vsOf xs).length : Nat) : Int).toNat - 8) / 2 = (vsOf xs).length by omega, hrow]
      try simp only
      rw [show ((8 + 2 * (vsOf xs).length : Nat) : Int).toNat = 8 + 2 * (vsOf xs).length by omega, htk, addAll_append]
      cases addAll n xs l0 with
      | none => rfl
      | some l' => exact blocks_made n f e l hk hl F (k + r) (o + (8 + 2 * (vsOf xs).length)) G l' (by omega) (by omega) hrest (by omega) (by omega)
    · rw [List.getElem?_eq_none (by omega)] at h3 h4
      simp only [List.length_nil] at h4
      unfold blocksS
      rw [if_pos (by omega), List.drop_of_length_le (by omega)]
      rfl

theorem parse_made (l : List Site) (n a : Nat) (hn : n = a + (madeB l (l.length + 1) 0).length) (ha : 0 < a) (hk : Some16 l) (hl : l.length ≤ 100) :
    parseS n (litF (aheadB a ++ madeB l (l.length + 1) 0)) a (madeB l (l.length + 1) 0).length = addAll n l [] := by
  unfold parseS
  rw [if_neg (by omega), if_neg (by omega)]
  rw [Int.toNat_natCast, Int.toNat_natCast]
  have h := blocks_made n (litF (aheadB a ++ madeB l (l.length + 1) 0)) (a + (madeB l (l.length + 1) 0).length) l hk hl (l.length + 1) 0 a ((madeB l (l.length + 1) 0).length + 1) [] (by omega) (by omega) (fun i b hb => by
    rw [litF_append_right (by rw [aheadB_len]; omega), aheadB_len]
    unfold litF
    rw [show a + i - a = i by omega, List.getD_eq_getElem?_getD, hb]
    rfl) rfl (by omega)
  exact h
/-- Sites that are apart are told as they are; with one more that lies over one of them, none is. -/
theorem parse_far (l : List Site) (n a : Nat) (hn : n = a + (madeB l (l.length + 1) 0).length) (ha : 0 < a) (hk : Kinds n l) (hr : ∀ x ∈ l, x.2 < 16777216) (hl : l.length ≤ 100) (hf : Far l) :
    parseS n (litF (aheadB a ++ madeB l (l.length + 1) 0)) a (madeB l (l.length + 1) 0).length = some l := by
  rw [parse_made l n a hn ha (fun x hx => ⟨(hk x hx).1, (hk x hx).2.1, hr x hx⟩) hl, addAll_far n l [] hk (by simp; omega) (by simpa using hf)]
  rfl
theorem parse_over (l : List Site) (z : Site) (n a : Nat) (hn : n = a + (madeB (l ++ [z]) ((l ++ [z]).length + 1) 0).length) (ha : 0 < a) (hk : Some16 (l ++ [z])) (hl : (l ++ [z]).length ≤ 100) (hz : ∃ y ∈ l, y.2 < z.2 + relLen z.1 ∧ z.2 < y.2 + relLen y.1) :
    parseS n (litF (aheadB a ++ madeB (l ++ [z]) ((l ++ [z]).length + 1) 0)) a (madeB (l ++ [z]) ((l ++ [z]).length + 1) 0).length = none := by
  rw [parse_made (l ++ [z]) n a hn ha hk hl, addAll_append]
  have hs : ∀ (xs l' l'' : List Site), addAll n xs l' = some l'' → ∀ y, y ∈ l' ∨ y ∈ xs → y ∈ l'' := by
    intro xs
    induction xs with
    | nil => intro l' l'' h y hy; simp [addAll] at h; subst h; simpa using hy
    | cons x xs ih =>
      intro l' l'' h y hy
      unfold addAll at h
      split at h
      · refine ih _ _ h y ?_
        rcases hy with hy | hy
        · exact .inl (by simp [hy])
        · rcases List.mem_cons.1 hy with rfl | hy
          · exact .inl (by simp)
          · exact .inr hy
      · cases h
  cases hc : addAll n l [] with
  | none => rfl
  | some l'' =>
    show addAll n [z] l'' = none
    obtain ⟨y, hy, h1, h2⟩ := hz
    have := hs _ _ _ hc y (.inr hy)
    unfold addAll
    rw [if_neg]
    rintro ⟨_, _, _, h⟩
    have := h y this
    omega
end Go.Proofs.Ytcommphfjkggkaa
