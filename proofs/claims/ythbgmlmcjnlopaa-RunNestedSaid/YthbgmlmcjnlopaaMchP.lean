/- package cpu: memories, plainly: what lies where, who may touch it; what is fetched there. -/
import Derived.Test.YthbgmlmcjnlopaaMchO
import Derived.Test.YthbgmlmcjnlopaaDecP
import Derived.Test.YthbgmlmcjnlopaaMgB
namespace Go.Proofs.Ythbgmlmcjnlopaa
open Go.ChangeShapes Go.WideShapes Go.ChangeAt Go.RowKit
set_option linter.unusedVariables false
set_option linter.unusedSimpArgs false
set_option maxRecDepth 100000

/-- The protection of a page. -/
def protAt (mp : Int → Option Pg) (p : Int) : Option Int := (mp p).map (·.prot)
theorem protAt_put (mp : Int → Option Pg) (a : Int) (n : Nat) (h : Nat → Int) (p : Int) : protAt (putP mp a n h) p = protAt mp p := by
  unfold protAt putP
  cases mp p <;> rfl
theorem byteAt_put {mp : Int → Option Pg} {a : Int} {n : Nat} {h : Nat → Int} {x : Int} (hp : (protAt mp (x - x % 4096)).isSome = true) : byteAt (putP mp a n h) x = if a ≤ x ∧ x < a + n then h (x - a).toNat else byteAt mp x := by
  unfold protAt at hp
  unfold byteAt putP
  cases hm : mp (x - x % 4096) with
  | none => rw [hm] at hp; simp at hp
  | some g =>
    simp only [Option.map_some]
    have h1 : (x - x % 4096) % 4096 = 0 := by omega
    have h2 : (x % 4096).toNat < 4096 := by omega
    have h3 : x - x % 4096 + ((x % 4096).toNat : Int) = x := by omega
    by_cases c : a ≤ x ∧ x < a + n
    · rw [if_pos c, if_pos ⟨h1, h2, by omega, by omega⟩, h3]
    · rw [if_neg c, if_neg (fun k => c ⟨by omega, by omega⟩)]
theorem putP_some {mp : Int → Option Pg} {a : Int} {n : Nat} {f : Nat → Int} {x : Int} {g : Pg} (h : putP mp a n f x = some g) : ∃ g', mp x = some g' ∧ g.prot = g'.prot ∧ ∀ j, (∃ i, g.dat j = f i) ∨ g.dat j = g'.dat j := by
  unfold putP at h
  cases hm : mp x with
  | none => rw [hm] at h; cases h
  | some g' =>
    rw [hm] at h
    injection h with h
    subst h
    refine ⟨g', rfl, rfl, fun j => ?_⟩
    by_cases c : x % 4096 = 0 ∧ j < 4096 ∧ a ≤ x + j ∧ x + j < a + n
    · exact .inl ⟨_, if_pos c⟩
    · exact .inr (if_neg c)
theorem MpOk.put {mp : Int → Option Pg} (h : MpOk mp) (a : Int) (n : Nat) {f : Nat → Int} (hf : ∀ j, 0 ≤ f j ∧ f j ≤ 255) : MpOk (putP mp a n f) := by
  refine ⟨fun x g hg => ?_, fun x g hg => ?_, fun x g hg j => ?_⟩
  · obtain ⟨g', h1, h2, _⟩ := putP_some hg
    rw [h2]; exact h.prot x g' h1
  · obtain ⟨g', h1, _, _⟩ := putP_some hg
    exact h.low x g' h1
  · obtain ⟨g', h1, _, h3⟩ := putP_some hg
    rcases h3 j with ⟨i, e⟩ | e
    · rw [e]; exact hf i
    · rw [e]; exact h.dat x g' h1 j
theorem MpOk.none : MpOk (fun _ => none) := ⟨fun _ _ h => (nomatch h), fun _ _ h => (nomatch h), fun _ _ h => (nomatch h)⟩
theorem setP_some {mp : Int → Option Pg} {a p : Int} : ∀ {k : Nat} {x : Int} {g : Pg}, setP mp a p k x = some g → (∃ i : Nat, i < k ∧ x = a + i * 4096 ∧ g = ⟨p, fun _ => 0⟩) ∨ mp x = some g
  | 0, _, _, h => .inr h
  | k + 1, x, g, h => by
    unfold setP at h
    by_cases e : x = a + k * 4096
    · rw [e, upd_same] at h
      injection h with h
      exact .inl ⟨k, by omega, e, h.symm⟩
    · rw [upd_other _ _ e] at h
      rcases setP_some h with ⟨i, hi, h1, h2⟩ | h1
      · exact .inl ⟨i, by omega, h1, h2⟩
      · exact .inr h1
theorem MpOk.set {mp : Int → Option Pg} (h : MpOk mp) {a p : Int} (h0 : 0 ≤ a) (p0 : 0 ≤ p) (p1 : p ≤ 15) (k : Nat) (hk : a + k * 4096 ≤ 140737488355328) : MpOk (setP mp a p k) := by
  refine ⟨fun x g hg => ?_, fun x g hg => ?_, fun x g hg j => ?_⟩
  · rcases setP_some hg with ⟨i, hi, h1, h2⟩ | h1
    · rw [h2]; exact ⟨p0, p1⟩
    · exact h.prot x g h1
  · rcases setP_some hg with ⟨i, hi, h1, h2⟩ | h1
    · omega
    · exact h.low x g h1
  · rcases setP_some hg with ⟨i, hi, h1, h2⟩ | h1
    · rw [h2]; exact ⟨Int.le_refl 0, by show (0 : Int) ≤ 255; omega⟩
    · exact h.dat x g h1 j
theorem rd8 (v : Int) (v0 : 0 ≤ v) (v1 : v < 18446744073709551616) : rdF (fun q => byteOf v q) 0 8 = v := by
  have p1 : (2 : Int) ^ (8 * 0) = 1 := by decide
  have p2 : (2 : Int) ^ (8 * (0 + 1)) = 256 := by decide
  have p3 : (2 : Int) ^ (8 * (0 + 1 + 1)) = 65536 := by decide
  have p4 : (2 : Int) ^ (8 * (0 + 1 + 1 + 1)) = 16777216 := by decide
  have p5 : (2 : Int) ^ (8 * (0 + 1 + 1 + 1 + 1)) = 4294967296 := by decide
  have p6 : (2 : Int) ^ (8 * (0 + 1 + 1 + 1 + 1 + 1)) = 1099511627776 := by decide
  have p7 : (2 : Int) ^ (8 * (0 + 1 + 1 + 1 + 1 + 1 + 1)) = 281474976710656 := by decide
  have p8 : (2 : Int) ^ (8 * (0 + 1 + 1 + 1 + 1 + 1 + 1 + 1)) = 72057594037927936 := by decide
  simp only [rdF, byteOf, p1, p2, p3, p4, p5, p6, p7, p8]
  omega
theorem rdF_congr8 {f g : Nat → Int} : ∀ (n o : Nat), (∀ i, i < n → f (o + i) = g (o + i)) → rdF f o n = rdF g o n
  | 0, _, _ => rfl
  | n + 1, o, h => by
    have h1 := rdF_congr8 (f := f) (g := g) n (o + 1) (fun i hi => by have := h (i + 1) (by omega); rw [show o + 1 + i = o + (i + 1) by omega]; exact this)
    have h0 := h 0 (by omega)
    rw [Nat.add_zero] at h0
    show f o + 256 * rdF f (o + 1) n = g o + 256 * rdF g (o + 1) n
    rw [h1, h0]
theorem byteOf_ok (v : Int) (j : Nat) : 0 ≤ le8 v j ∧ le8 v j ≤ 255 := by unfold le8 byteOf; omega

/-- An access of n bytes in one page that has the right. -/
theorem ask_ok {mp : Int → Option Pg} {need kind : Int} {a n : Int} {k : Nat} {p : Int} (hk : n ≤ k) (hn : 0 < n) (hp : protAt mp (a - a % 4096) = some p) (hg : (bits .and .i64 p 8 != 0) = false) (hr : (bits .and .i64 p need == 0) = false) (hin : a % 4096 + n ≤ 4096) : (askS mp need kind k a n) = (0, 0, none) := by
  obtain ⟨k, rfl⟩ : ∃ j, k = j + 1 := ⟨k - 1, by omega⟩
  unfold protAt at hp
  cases hm : mp (a - a % 4096) with
  | none => rw [hm] at hp; cases hp
  | some g =>
    rw [hm] at hp
    injection hp with hp
    replace hp : g.prot = p := hp
    unfold askS
    rw [if_neg (by omega), hm]
    simp only
    rw [hp, hg, hr, if_neg (by simp), if_neg (by simp), show n - min n (4096 - a % 4096) = 0 by omega]
    cases k with
    | zero => rfl
    | succ k => unfold askS; rw [if_pos (by omega)]
theorem ask_none {mp : Int → Option Pg} {need kind : Int} {a n : Int} {k : Nat} (hk : 0 < k) (hn : 0 < n) (hp : protAt mp (a - a % 4096) = none) : askS mp need kind k a n = (1, a, none) := by
  obtain ⟨k, rfl⟩ : ∃ j, k = j + 1 := ⟨k - 1, by omega⟩
  unfold protAt at hp
  cases hm : mp (a - a % 4096) with
  | some g => rw [hm] at hp; cases hp
  | none => unfold askS; rw [if_neg (by omega), hm]

/-- What is fetched where an instruction lies. -/
theorem fetch_tells {mp : Int → Option Pg} {F : Form} {x : InsV} (hx : Tells F x) {ip : Int} (h0 : 0 ≤ ip) (h1 : ip + 16 ≤ 9223372036854775807)
    (ha : ∀ i : Nat, i < (encM F x).length → (askS mp 4 4 1 (ip + i) 1).1 = 0) (hb : ∀ i : Nat, i < (encM F x).length → byteAt mp (ip + i) = ((encM F x).getD i 0 : Nat)) :
    fetchM mp ip 12 [] = ⟨false, mp, x, (encM F x).length, 0, 0, 0⟩ := by
  have hl := hx.long_bd
  rw [← hx.long] at hl
  have key : ∀ (d k : Nat), k + d = (encM F x).length → 0 < d → ∀ f, d ≤ f → fetchM mp ip f ((encM F x).take k) = ⟨false, mp, x, (encM F x).length, 0, 0, 0⟩ := by
    intro d
    induction d with
    | zero => intro k _ h; omega
    | succ d ih =>
      intro k hk _ f hf
      obtain ⟨f, rfl⟩ : ∃ j, f = j + 1 := ⟨f - 1, by omega⟩
      have hlen : ((encM F x).take k).length = k := by rw [List.length_take]; omega
      have hat : atI ip ((encM F x).take k).length = ip + k := by rw [hlen]; unfold atI; omega
      have hsn : (encM F x).take k ++ [(byteAt mp (ip + k)).toNat] = (encM F x).take (k + 1) := by
        have hkl : k < (encM F x).length := by omega
        rw [hb k hkl, Int.toNat_natCast, List.take_add_one, List.getElem?_eq_getElem hkl]
        simp [List.getD, List.getElem?_eq_getElem hkl]
      unfold fetchM
      rw [hat, if_pos (ha k (by omega)), hsn]
      by_cases e : d = 0
      · have he : (encM F x).take (k + 1) = encM F x := List.take_of_length_le (by omega)
        have hbk := hx.back []
        rw [List.append_nil] at hbk
        rw [he, hbk, if_neg (by simp)]
      · rw [hx.begins (k + 1) (by omega), if_pos rfl]
        exact ih (k + 1) (by omega) (by omega) f (by omega)
  exact key (encM F x).length 0 (by omega) (by omega) 12 (by omega)
theorem num_put_same {mp : Int → Option Pg} {a v : Int} (v0 : 0 ≤ v) (v1 : v < 18446744073709551616) (hp : ∀ j : Nat, j < 8 → (protAt mp ((a + j) - (a + j) % 4096)).isSome = true) : numM (putP mp a 8 (le8 v)) a = v := by
  unfold numM
  rw [rdF_congr8 (g := fun q => byteOf v q) 8 0 (fun i hi => by
    show byteAt (putP mp a 8 (le8 v)) (a + ((0 + i : Nat) : Int)) = byteOf v (0 + i)
    rw [Nat.zero_add, byteAt_put (hp i hi), if_pos ⟨by omega, by omega⟩, show (a + (i : Int) - a).toNat = i by omega]
    rfl)]
  exact rd8 v v0 v1
theorem num_put_other {mp : Int → Option Pg} {a b : Int} {h : Nat → Int} {n : Nat} (hp : ∀ j : Nat, j < 8 → (protAt mp ((b + j) - (b + j) % 4096)).isSome = true) (hap : b + 8 ≤ a ∨ a + n ≤ b) : numM (putP mp a n h) b = numM mp b := by
  unfold numM
  refine rdF_congr8 8 0 fun i hi => ?_
  show byteAt (putP mp a n h) (b + ((0 + i : Nat) : Int)) = byteAt mp (b + ((0 + i : Nat) : Int))
  rw [Nat.zero_add, byteAt_put (hp i hi), if_neg (by omega)]
end Go.Proofs.Ythbgmlmcjnlopaa
