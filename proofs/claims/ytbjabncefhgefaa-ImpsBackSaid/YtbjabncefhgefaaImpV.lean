/- law 8: as many descriptors, and symbols of one, may be as the bounds say. -/
import Derived.Test.YtbjabncefhgefaaMgF
import Derived.Test.YtbjabncefhgefaaMgE
import Derived.Test.YtbjabncefhgefaaMask
namespace Go.Proofs.Ytbjabncefhgefaa
open Go.ChangeShapes Go.WideShapes Go.ChangeAt Go.RowKit
set_option linter.unusedVariables false
set_option linter.unusedSimpArgs false
set_option maxRecDepth 100000

theorem txt_bb : txt [98] = ⟨#[98]⟩ := by decide +kernel
theorem txt_aa : txt [97] = ⟨#[97]⟩ := by decide +kernel
def symsB8 (k : Nat) : List SymV := (List.range k).map fun i => ([], i, true)
theorem symsB8_len (k : Nat) : (symsB8 k).length = k := by simp [symsB8]
theorem symsB8_succ (k : Nat) : symsB8 (k + 1) = symsB8 k ++ [([], k, true)] := by simp [symsB8, List.range_succ]
def oneA8 : PIm := ⟨[97], [([102], 0, false)]⟩
def oneB8 (k : Nat) : PIm := ⟨[98], symsB8 k⟩
theorem oneA8_ok : PImOk oneA8 := ⟨⟨fun v hv => by simp [oneA8] at hv; omega, by simp [oneA8]⟩, fun s hs => by
  simp [oneA8] at hs
  subst hs
  exact ⟨fun v hv => by simp at hv; omega, by simp⟩, by simp [oneA8]⟩
theorem oneA8_can : PCan oneA8 := ⟨by simp [oneA8], fun s hs => by simp [oneA8] at hs; subst hs; simp, by simp [oneA8], fun s hs h => by simp [oneA8] at hs; subst hs; cases h⟩
theorem oneA8_ask : PAsk oneA8 := ⟨by simp [oneA8], fun v hv => by simp [oneA8] at hv; omega, by decide +kernel, fun s hs => by
  simp [oneA8] at hs
  subst hs
  exact .inr ⟨rfl, rfl, by simp, fun v hv => by simp at hv; omega, by decide +kernel⟩⟩
theorem oneB8_ok (k : Nat) (hk : k ≤ 65) : PImOk (oneB8 k) := ⟨⟨fun v hv => by simp [oneB8] at hv; omega, by simp [oneB8]⟩, fun s hs => by
  obtain ⟨i, _, rfl⟩ := List.mem_map.mp hs
  exact ⟨fun v hv => by simp at hv, by simp⟩, by show (symsB8 k).length ≤ _; rw [symsB8_len]; omega⟩
theorem oneB8_can (k : Nat) (hk : k ≤ 65) : PCan (oneB8 k) := ⟨by show (symsB8 k).length ≤ _; rw [symsB8_len]; omega, fun s hs => ((oneB8_ok k hk).2.1 s hs).2, by simp [oneB8], fun s hs h => by
  obtain ⟨i, hi, rfl⟩ := List.mem_map.mp hs
  have := List.mem_range.mp hi
  show i < _
  omega⟩
theorem oneB8_ask (k : Nat) (hk : k ≤ 65) : PAsk (oneB8 k) := ⟨by simp [oneB8], fun v hv => by simp [oneB8] at hv; omega, by show okNm [98] = true; decide +kernel, fun s hs => by
  obtain ⟨i, hi, rfl⟩ := List.mem_map.mp hs
  have := List.mem_range.mp hi
  exact .inl ⟨rfl, rfl, by show i < _; omega⟩⟩
theorem rowsA8 {l : List PImA} {n : Nat} (h : ∀ y ∈ l, y.v = oneA8) (hn : l.length = n) : l.map (·.v) = List.replicate n oneA8 := by
  subst hn
  rw [List.eq_replicate_iff]
  refine ⟨List.length_map _, fun b hb => ?_⟩
  obtain ⟨y, hy, rfl⟩ := List.mem_map.mp hb
  exact h y hy
theorem bndA8 (n : Nat) (hn : n ≤ 17) (delay : Bool) : (parseI (at8 64 (List.replicate n oneA8) delay) 64 (lenD delay) (rdD delay)).map List.length = (if n ≤ 16 then some n else none) ∧ (at8 64 (List.replicate n oneA8) delay).length ≤ 300000 := by
  have hc : ∀ x ∈ List.replicate n oneA8, PCan x := fun x hx => by rw [(List.mem_replicate.mp hx).2]; exact oneA8_can
  have h := parse_at8 delay (List.replicate n oneA8) (by rw [List.length_replicate]; exact hn) hc (fun x hx => by rw [(List.mem_replicate.mp hx).2]; exact ⟨oneA8_ask, by simp [oneA8]⟩)
  refine ⟨?_, (at8_spec delay 64 (List.replicate n oneA8) (by rw [List.length_replicate]; omega) (by omega) (by omega) hc).2.1⟩
  rw [List.length_replicate] at h
  by_cases e : n ≤ 16
  · rw [if_pos e] at h ⊢
    obtain ⟨vs, hv, ht⟩ := h
    rw [hv, Option.map_some, ht.len, List.length_replicate]
  · rw [if_neg e] at h ⊢
    rw [h]; rfl
theorem bndB8 (k : Nat) (hk : k ≤ 65) (delay : Bool) : (parseI (at8 64 [oneB8 k] delay) 64 (lenD delay) (rdD delay)).map List.length = (if k ≤ 64 then some 1 else none) ∧ (at8 64 [oneB8 k] delay).length ≤ 300000 := by
  have hl : (oneB8 k).syms.length = k := symsB8_len k
  have h := parse_many delay (oneB8 k) (oneB8_can k hk) (oneB8_ask k hk) (by rw [hl]; exact hk)
  rw [hl] at h
  exact ⟨h, (at8_spec delay 64 [oneB8 k] (by simp) (by omega) (by omega) (fun x hx => by simp at hx; subst hx; exact oneB8_can k hk)).2.1⟩

/-- What is made of rows. -/
def Made8 (w : World) (delay : Bool) (P : Option Addr) (n c : Nat) (img : List Nat) : Prop :=
  ∀ W, Below w.heap.size w W → Calls Try.prog 20 #[.slice P n c, .bool delay] W fun e w' => ∃ g c, e = .returned (.slice (some ⟨g, 0, none⟩) img.length c) ∧ OwnD w' W.heap.size g c img ∧ Below W.heap.size W w'
theorem Made8.of {w : World} {base : Nat} {delay : Bool} {A : Option Addr} {c : Nat} {l : List PImA} (h : PRows w base (.slice A l.length c) l) (hne : l ≠ []) (hll : l.length ≤ 100000) (hok : ∀ y ∈ l, PImOk y.v) (img : List Nat) (himg : at8 64 (l.map (·.v)) delay = img) : Made8 w delay A l.length c img := by
  intro W hW
  obtain ⟨A', cap', hv, _, _, hl | ⟨g, hA, _, _⟩⟩ := h.1.form
  · exact absurd hl hne
  injection hv with hv _ hc'
  subst hv hA
  exact made8_any g 0 c delay l W hll ((h.1.sl pimC_len).below hW) (fun y hy => (h.2 y hy).1.below hW) hok img himg

theorem own_one8 (w : World) (y : PImA) (base : Nat) (h : base ≤ w.heap.size) (hy : SlT symC 3 w y.A y.v.syms) (hlt : ∀ b, y.A.map (·.block) = some b → b < w.heap.size) : PRows (w.alloc (.cells #[.string (txt y.v.dll), .slice y.A y.v.syms.length y.c] 66)) base (.slice (some ⟨w.heap.size, 0, none⟩) [y].length 1) [y] := by
  refine ⟨⟨by simp [pimC], .inr ⟨w.heap.size, 1, _, rfl, h, heap_alloc_new w _, Nat.le_refl _, by unfold maxLen; omega, by simp, by simp [pimC]⟩⟩, fun z hz => ?_⟩
  simp at hz
  subst hz
  refine ⟨hy.below ((Below.refl _ _).alloc (Nat.le_refl _) _), fun _ b hb hk => ?_⟩
  have := hlt b hb
  simp [Value.ownBlock] at hk
  omega
theorem symCell1 (s : SymV) (w : World) : ∀ j u, (symC s)[j]? = some u → (w.alloc (.cells #[.string (txt s.1), .int .i64 s.2.1, .bool s.2.2] 50)).cell? ⟨w.heap.size, j, none⟩ = some u := symCells s w
end Go.Proofs.Ytbjabncefhgefaa
