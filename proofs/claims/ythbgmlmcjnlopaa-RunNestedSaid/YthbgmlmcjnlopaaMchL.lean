/- package cpu: what is decoded, at most; what is fetched. -/
import Derived.Test.YthbgmlmcjnlopaaMchK
import Derived.Test.YthbgmlmcjnlopaaMgL
namespace Go.Proofs.Ythbgmlmcjnlopaa
open Go.ChangeShapes Go.WideShapes Go.ChangeAt Go.RowKit
set_option linter.unusedVariables false
set_option linter.unusedSimpArgs false
set_option maxRecDepth 100000

theorem preRead_fit (p : Pre) (bs : List Nat) : (preRead p bs).fit ≤ 2 ∧ ((preRead p bs).fit = 1 → bs.length = 0) := by
  unfold preRead
  split
  · simp
  · split
    · simp
    · split
      · split <;> simp
      · simp
theorem codeRead_fit (F : Form) (a b : Nat) (bs : List Nat) : (codeRead F a b bs).fit ≤ 2 ∧ ((codeRead F a b bs).fit = 1 → bs.length ≤ 1) ∧ (codeRead F a b bs).a ≤ a + 7 ∧ (codeRead F a b bs).b ≤ b + 7 := by
  have h7 : ∀ v : Nat, v &&& 7 ≤ 7 := fun v => Nat.and_le_right
  have ha : ∀ v, (regsRead F v a b).2.1 ≤ a + 7 := fun v => by
    unfold regsRead
    simp only
    split
    · have := h7 (v / 8); omega
    · omega
  have hb : ∀ v, (regsRead F v a b).2.2 ≤ b + 7 := fun v => by
    unfold regsRead
    simp only
    split
    · have := h7 (if hasA F.regs = true then v &&& 199 else v); omega
    · omega
  cases bs with
  | nil => unfold codeRead; simp
  | cons c r =>
    cases r with
    | nil =>
      unfold codeRead
      simp only
      split
      · split
        · simp
        · exact ⟨by simp, by simp, by have := h7 c; show a + (c &&& 7) ≤ a + 7; omega, by show b ≤ b + 7; omega⟩
      · split
        · simp
        · split <;> simp
    | cons v r =>
      unfold codeRead
      simp only
      split
      · split
        · simp
        · exact ⟨by simp, by simp, by have := h7 c; show a + (c &&& 7) ≤ a + 7; omega, by show b ≤ b + 7; omega⟩
      · split
        · simp
        · split
          · simp
          · split <;> exact ⟨by simp, by simp, ha v, hb v⟩
theorem leN_lt8 : ∀ (n : Nat) (bs : List Nat), Bn bs → leN bs n < 256 ^ n
  | 0, _, _ => by simp [leN]
  | n + 1, bs, h => by
    have h1 : bs.headD 0 ≤ 255 := by
      cases bs with
      | nil => simp
      | cons v r => exact h v (by simp)
    have h2 := leN_lt8 n bs.tail (fun v hv => h v (List.mem_of_mem_tail hv))
    simp only [leN, Nat.pow_succ]
    omega
theorem tailImm_lt (t : Nat) (bs : List Nat) (h : Bn bs) : tailImm t bs < 18446744073709551616 := by
  have h1 : bs.headD 0 ≤ 255 := by
    cases bs with
    | nil => simp
    | cons v r => exact h v (by simp)
  have h8 := leN_lt8 8 bs h
  have h4 := leN_lt8 4 bs h
  unfold tailImm
  split
  · omega
  · omega
  · omega
  · unfold sgn8; split <;> omega
  · omega
/-- How a form's reading ends. -/
theorem readM_bd (F : Form) (hF : F ∈ forms) (bs : List Nat) (hb : Bn bs) :
    (readM F bs).fit ≤ 2 ∧ ((readM F bs).fit = 1 → bs.length < 11) ∧ ((readM F bs).fit = 2 → InsD (readM F bs).x ∧ (readM F bs).n ≤ 11) := by
  obtain ⟨r, hr⟩ : ∃ r, preRead (preF F.pre) bs = r := ⟨_, rfl⟩
  obtain ⟨c, hc⟩ : ∃ c, codeRead F r.a r.b (bs.drop r.n) = c := ⟨_, rfl⟩
  have p1 := preRead_fit (preF F.pre) bs
  have p2 := preRead_bd (preF F.pre) bs
  have p3 := codeRead_fit F r.a r.b (bs.drop r.n)
  have p4 := codeRead_bd F r.a r.b (bs.drop r.n)
  have p5 := tailLen_bd F.tail
  rw [hr] at p1 p2
  rw [hc] at p3 p4
  rw [List.length_drop] at p3
  by_cases h : r.fit = 2
  · by_cases h' : c.fit = 2
    · by_cases hs : bs.length < r.n + c.n + tailLen F.tail
      · rw [readM_short hr h hc h' hs]
        have := (p4 h').1
        exact ⟨by simp, fun _ => by omega, fun h => absurd h (by simp)⟩
      · rw [readM_full hr h hc h' hs]
        have := (p4 h').1
        have ho : ∀ F ∈ forms, 1 ≤ F.op ∧ F.op ≤ 23 ∧ (F.op = 20 → F.cc = 2 ∨ F.cc = 3 ∨ F.cc = 4 ∨ F.cc = 5 ∨ F.cc = 8 ∨ F.cc = 9 ∨ F.cc = 12 ∨ F.cc = 13) := by decide +kernel
        obtain ⟨o1, o2, o3⟩ := ho F hF
        refine ⟨by simp, fun h => absurd h (by simp), fun _ => ⟨⟨⟨o1, o2⟩, ?_, ?_, tailImm_lt _ _ (hb.drop _), o3⟩, ?_⟩⟩
        · show c.a < 16; omega
        · show c.b < 16; omega
        · show r.n + c.n + tailLen F.tail ≤ 11; omega
    · rw [readM_code hr h hc h']
      exact ⟨p3.1, fun k => by have := p3.2.1 k; omega, fun k => absurd k h'⟩
  · rw [readM_pre hr h]
    exact ⟨p1.1, fun k => by have := p1.2 k; omega, fun k => absurd k h⟩
theorem decodeM_bd (bs : List Nat) (hb : Bn bs) : ∀ (l : List Form) (e : Nat), (∀ F ∈ l, F ∈ forms) → (decodeM l e bs).n ≤ 11 ∧ ((decodeM l e bs).fit = 0 ∧ InsD (decodeM l e bs).x ∨ ((decodeM l e bs).fit = 2 ∧ (e = 2 ∨ bs.length < 11)) ∨ (decodeM l e bs).fit = e)
  | [], e, _ => ⟨by simp [decodeM], .inr (.inr rfl)⟩
  | F :: l, e, hl => by
    have h := readM_bd F (hl F (by simp)) bs hb
    unfold decodeM
    by_cases c : (readM F bs).fit = 2
    · rw [if_pos c]
      exact ⟨(h.2.2 c).2, .inl ⟨rfl, (h.2.2 c).1⟩⟩
    · rw [if_neg c]
      have ih := decodeM_bd bs hb l (if (readM F bs).fit = 1 then 2 else e) (fun G hG => hl G (by simp [hG]))
      refine ⟨ih.1, ?_⟩
      by_cases c1 : (readM F bs).fit = 1
      · rw [if_pos c1] at ih ⊢
        have := h.2.1 c1
        rcases ih.2 with k | k | k
        · exact .inl k
        · exact .inr (.inl ⟨k.1, .inr this⟩)
        · exact .inr (.inl ⟨k, .inr this⟩)
      · rw [if_neg c1] at ih ⊢
        exact ih.2
/-- What bytes are, decoded. -/
theorem decode_bd (bs : List Nat) (hb : Bn bs) : (decodeM forms 16 bs).n ≤ 11 ∧ ((decodeM forms 16 bs).fit = 0 ∧ InsD (decodeM forms 16 bs).x ∨ ((decodeM forms 16 bs).fit = 2 ∧ bs.length < 11) ∨ (decodeM forms 16 bs).fit = 16) := by
  have h := decodeM_bd bs hb forms 16 (fun _ h => h)
  refine ⟨h.1, ?_⟩
  rcases h.2 with k | ⟨k, k2⟩ | k
  · exact .inl k
  · exact .inr (.inl ⟨k, by omega⟩)
  · exact .inr (.inr k)

/-- What is fetched: a fault, or what was decoded. -/
structure FeR where
  flt : Bool
  mp : Int → Option Pg
  x : InsV
  n : Nat
  e : Nat
  k : Int
  a : Int
def atI (ip : Int) (n : Nat) : Int := (ip + n) % 18446744073709551616
def fetchM (mp : Int → Option Pg) (ip : Int) : Nat → List Nat → FeR
  | 0, _ => ⟨false, mp, ins0, 0, 2, 0, 0⟩
  | f + 1, bs =>
    if (askS mp 4 4 1 (atI ip bs.length) 1).1 = 0 then
      if (decodeM forms 16 (bs ++ [(byteAt mp (atI ip bs.length)).toNat])).fit = 2 then fetchM mp ip f (bs ++ [(byteAt mp (atI ip bs.length)).toNat])
      else ⟨false, mp, (decodeM forms 16 (bs ++ [(byteAt mp (atI ip bs.length)).toNat])).x, (decodeM forms 16 (bs ++ [(byteAt mp (atI ip bs.length)).toNat])).n, (decodeM forms 16 (bs ++ [(byteAt mp (atI ip bs.length)).toNat])).fit, 0, 0⟩
    else ⟨true, askM mp (askS mp 4 4 1 (atI ip bs.length) 1), ins0, 0, 17, (askS mp 4 4 1 (atI ip bs.length) 1).1, (askS mp 4 4 1 (atI ip bs.length) 1).2.1⟩
theorem atI_bd (ip : Int) (n : Nat) : 0 ≤ atI ip n ∧ atI ip n < 18446744073709551616 := by unfold atI; omega
end Go.Proofs.Ythbgmlmcjnlopaa
