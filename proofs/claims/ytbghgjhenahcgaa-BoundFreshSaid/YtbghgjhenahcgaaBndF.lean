/- package bound: Fresh. -/
import Derived.Test.YtbghgjhenahcgaaBndAt
import Derived.Test.YtbghgjhenahcgaaKeyEx
namespace Go.Proofs.Ytbghgjhenahcgaa
open Go.ChangeShapes Go.WideShapes Go.ChangeAt Go.RowKit
set_option linter.unusedVariables false

def lowN (c : Nat) : Nat := if 65 ≤ c ∧ c ≤ 90 then c + 32 else c
/-- The one form of a name. -/
def keyN (t : List Nat) : List Nat := if t.any (· == 46) then t.map lowN else t.map lowN ++ [46, 100, 108, 108]
theorem lowN_lb {t : List Nat} (h : Lb t) : Lb (t.map lowN) := by
  intro v hv
  obtain ⟨c, hc, rfl⟩ := List.mem_map.mp hv
  have := h c hc
  unfold lowN; split <;> omega
theorem keyN_lb {t : List Nat} (h : Lb t) : Lb (keyN t) := by
  unfold keyN
  split
  · exact lowN_lb h
  · exact (lowN_lb h).append (fun v hv => by simp at hv; omega)
theorem keyN_len (t : List Nat) : (keyN t).length ≤ t.length + 4 := by unfold keyN; split <;> simp
theorem lowT_txt {t : List Nat} (h : Lb t) : lowT (txt t) = txt (t.map lowN) := by
  unfold lowT
  have e : txt (t.map lowN) = strF (lF (t.map lowN)) 0 (txt t).size := by rw [txt_size]; unfold txt; rw [List.length_map]
  rw [e]
  refine strF_congr fun i hi => ?_
  rw [txt_size] at hi
  rw [Nat.zero_add]
  unfold lowF
  rw [txt_bt h hi]
  unfold lowB lF
  simp only [List.getD, List.getElem?_map, List.getElem?_eq_getElem hi, Option.map_some, Option.getD_some]
  unfold lowN
  split <;> split <;> omega
theorem dot_txt {t : List Nat} (h : Lb t) : DotIn (txt t) ↔ t.any (· == 46) = true := by
  unfold DotIn
  rw [txt_size, List.any_eq_true]
  constructor
  · rintro ⟨i, hi, e⟩
    rw [txt_bt h hi] at e
    refine ⟨t[i], List.getElem_mem hi, ?_⟩
    unfold lF at e
    simp only [List.getD, List.getElem?_eq_getElem hi, Option.getD_some] at e
    simp; omega
  · rintro ⟨v, hv, e⟩
    obtain ⟨i, hi, rfl⟩ := List.mem_iff_getElem.mp hv
    refine ⟨i, hi, ?_⟩
    rw [txt_bt h hi]
    unfold lF
    simp only [List.getD, List.getElem?_eq_getElem hi, Option.getD_some]
    have : t[i] = 46 := by simpa using e
    omega
theorem txt_cat {a b : List Nat} : txt (a ++ b) = txt a ++ txt b := by
  unfold txt
  rw [List.length_append, ← strF_cat]
  congr 1
  · exact strF_congr fun i hi => by rw [Nat.zero_add, lF_cat]; unfold catF; rw [if_pos hi]
  · exact strF_congr fun i hi => by rw [Nat.zero_add, Nat.zero_add, lF_cat]; unfold catF; rw [if_neg (by omega)]; congr 1; omega
theorem key_txt {t : List Nat} (h : Lb t) : KeyOf (txt t) (txt (keyN t)) := by
  unfold keyN
  constructor
  · intro hd
    rw [if_pos ((dot_txt h).1 hd), lowT_txt h]
  · intro hd
    rw [if_neg (fun k => hd ((dot_txt h).2 k)), txt_cat, lowT_txt h]
    rfl
theorem txt_inj {a b : List Nat} (ha : Lb a) (hb : Lb b) (h : (txt a).toList = (txt b).toList) : a = b := by
  have e : txt a = txt b := by
    unfold txt strF at h ⊢
    rw [Lib.strOfNums_toList, Lib.strOfNums_toList] at h
    apply ByteArray.ext
    apply Array.ext'
    exact h
  have hn : a.length = b.length := by have := congrArg ByteArray.size e; rwa [txt_size, txt_size] at this
  refine List.ext_getElem hn fun i h1 h2 => ?_
  have e1 := txt_bt ha h1
  rw [e, txt_bt hb h2] at e1
  unfold lF at e1
  simp only [List.getD, List.getElem?_eq_getElem h1, List.getElem?_eq_getElem h2, Option.getD_some] at e1
  omega
theorem txt_eq {a b : List Nat} (ha : Lb a) (hb : Lb b) : ((txt a).toList == (txt b).toList) = (a == b) := by
  by_cases h : a = b
  · subst h; simp
  · rw [show (a == b) = false by simpa using h]
    exact beq_eq_false_iff_ne.mpr fun e => h (txt_inj ha hb e)

theorem same_any (a b : List Nat) (w : World) (ha : Lb a) (hb : Lb b) (hla : a.length ≤ 1000000) (hlb : b.length ≤ 1000000) :
    Calls Try.prog 22 #[.string (txt a), .string (txt b)] w fun e w' => e = .returned (.bool (keyN a == keyN b)) ∧ Below w.heap.size w w' := by
  have HA := Lib.hid (fun W => key_any (txt a) (txt (keyN a)) W (by rw [txt_size]; omega) (key_txt ha))
  have HB := Lib.hid (fun W => key_any (txt b) (txt (keyN b)) W (by rw [txt_size]; omega) (key_txt hb))
  have he := txt_eq (keyN_lb ha) (keyN_lb hb)
  go_enter Try.func22, Try.ntmps22
  go_wp2_with fail
  refine (HA.out _).mono ?_
  rintro e w1 ⟨rfl, hw1⟩
  go_wp2_with fail
  refine (HB.out _).mono ?_
  rintro e w2 ⟨rfl, hw2⟩
  go_wp2_with fail
  go_ret
  exact ⟨rfl, hw1.trans (hw2.mono hw1.size)⟩

abbrev FRow := List Nat × Int
def fC (x : FRow) : List Value := [.string (txt x.1), .int .i64 x.2]
theorem fC_len (x : FRow) : (fC x).length = 2 := rfl
theorem fC_one (x : FRow) : ∀ u ∈ fC x, u.oneCell' = true := by
  intro u hu
  simp [fC] at hu
  rcases hu with rfl | rfl <;> rfl
theorem SlT.frow {w : World} {L : Option Addr} {l : List FRow} (h : SlT fC 2 w L l) {i : Nat} (hi : i < l.length) : ∃ b off, L = some ⟨b, off, none⟩ ∧ b < w.heap.size ∧ w.cell? ⟨b, off + i * 2, none⟩ = some (.string (txt l[i].1)) ∧ w.cell? ⟨b, off + i * 2 + 1, none⟩ = some (.int .i64 l[i].2) := by
  rcases h with h | ⟨b, off, rfl, hlt, hc⟩
  · rw [h] at hi; simp at hi
  · exact ⟨b, off, rfl, hlt, by have := hc i hi 0 _ (by simp [fC]; rfl); simpa using this, by have := hc i hi 1 _ (by simp [fC]; rfl); rwa [← Nat.add_assoc] at this⟩

def hasM (x : FRow) : List FRow → Bool
  | [] => false
  | s :: l => if keyN s.1 == keyN x.1 then s.2 == x.2 else hasM x l
def freshM (l s : List FRow) : Bool := l.all fun x => hasM x s
def NameB (x : FRow) : Prop := Lb x.1 ∧ x.1.length ≤ 1000000
end Go.Proofs.Ytbghgjhenahcgaa
