/- package exps: at, ByName, ByOrd. -/
import Derived.Test.YtbjabncefhgefaaExpD
namespace Go.Proofs.Ytbjabncefhgefaa
open Go.ChangeShapes Go.WideShapes Go.ChangeAt Go.RowKit
set_option linter.unusedVariables false
set_option linter.unusedSimpArgs false

def atM (fs : List FnV) (ix : Int) : Option FnV :=
  if 0 ≤ ix ∧ ix < fs.length then (if (fs.getD ix.toNat (0, [])).1 = 0 ∧ (fs.getD ix.toNat (0, [])).2 = [] then none else some (fs.getD ix.toNat (0, []))) else none
/-- What at tells. -/
def AtQ (r : Option FnV) (e : Ending) : Prop := match r with
  | none => e = .returned (.tuple #[.agg #[.int .i64 0, .string ByteArray.empty], .bool false])
  | some f => e = .returned (.tuple #[.agg #[.int .i64 f.1, .string (txt f.2)], .bool true])
def FnOk (f : FnV) : Prop := Lb f.2

theorem SlT.fn {w : World} {F : Option Addr} {fs : List FnV} (h : SlT gC 2 w F fs) {k : Nat} (hk : k < fs.length) : ∃ b off, F = some ⟨b, off, none⟩ ∧ b < w.heap.size ∧ w.cell? ⟨b, off + k * 2, none⟩ = some (.int .i64 fs[k].1) ∧ w.cell? ⟨b, off + k * 2 + 1, none⟩ = some (.string (txt fs[k].2)) := by
  rcases h with h | ⟨b, off, rfl, hlt, hc⟩
  · rw [h] at hk; simp at hk
  · exact ⟨b, off, rfl, hlt, by have := hc k hk 0 _ (by simp [gC]; rfl); simpa using this, by have := hc k hk 1 _ (by simp [gC]; rfl); rwa [← Nat.add_assoc] at this⟩
theorem SlT.nm {w : World} {F : Option Addr} {fs : List NmV} (h : SlT nC 2 w F fs) {k : Nat} (hk : k < fs.length) : ∃ b off, F = some ⟨b, off, none⟩ ∧ b < w.heap.size ∧ w.cell? ⟨b, off + k * 2, none⟩ = some (.string (txt fs[k].1)) ∧ w.cell? ⟨b, off + k * 2 + 1, none⟩ = some (.int .i64 fs[k].2) := by
  rcases h with h | ⟨b, off, rfl, hlt, hc⟩
  · rw [h] at hk; simp at hk
  · exact ⟨b, off, rfl, hlt, by have := hc k hk 0 _ (by simp [nC]; rfl); simpa using this, by have := hc k hk 1 _ (by simp [nC]; rfl); rwa [← Nat.add_assoc] at this⟩
theorem txt_nil {t : List Nat} (h : Lb t) : ((txt t).toList == ([] : List UInt8)) = decide (t = []) := by
  have := txt_eq h (s := []) (fun v hv => by simp at hv)
  rw [show (txt []).toList = ([] : List UInt8) from by decide +kernel] at this
  rw [this, Bool.eq_iff_iff]
  simp

set_option maxRecDepth 100000 in
set_option maxHeartbeats 2000000 in
theorem at_any (fs : List FnV) (F : Option Addr) (cap : Nat) (N : Option Addr) (nn nc : Nat) (base ix : Int) (w : World) (hs : SlT gC 2 w F fs) (hb : ∀ f ∈ fs, FnOk f) (hl : fs.length ≤ 1000000) :
    Calls Try.prog 32 #[.agg #[.int .i64 base, .slice F fs.length cap, .slice N nn nc], .int .i64 ix] w fun e w' => AtQ (atM fs ix) e ∧ Below w.heap.size w w' := by
  obtain ⟨R, hR⟩ : ∃ R, atM fs ix = R := ⟨_, rfl⟩
  rw [hR]
  unfold atM at hR
  by_cases h0 : ix < 0
  · rw [if_neg (by omega)] at hR
    subst hR
    clear hs hb
    go_enter Try.func32, Try.ntmps32
    go_wp2_with fail
    refine bodyPost_ret (v := .tuple #[.agg #[.int .i64 0, .string ByteArray.empty], .bool false]) (by simp [results, Try.results32, go_sem]; rfl) rfl ⟨rfl, by go_grown⟩
  · by_cases h1 : ix < fs.length
    · rw [if_pos (by omega)] at hR
      obtain ⟨k, rfl⟩ : ∃ k : Nat, ix = (k : Int) := ⟨ix.toNat, by omega⟩
      have hk : k < fs.length := by omega
      rw [Int.toNat_natCast, List.getD_eq_getElem?_getD, List.getElem?_eq_getElem hk, Option.getD_some] at hR
      obtain ⟨b, off, rfl, hbl, q0, q1⟩ := hs.fn hk
      have hlb := hb fs[k] (List.getElem_mem hk)
      obtain ⟨⟨x, t⟩, hx⟩ : ∃ x, fs[k] = x := ⟨_, rfl⟩
      rw [hx] at hR hlb q0 q1
      simp only at hR q0 q1
      have hnil := txt_nil hlb
      have HQ := Lib.hid (fun W (hW : Below w.heap.size w W) => And.intro ((hW.cell (p := ⟨b, off + k * 2, none⟩) hbl).trans q0) ((hW.cell (p := ⟨b, off + k * 2 + 1, none⟩) hbl).trans q1))
      have d0 : ¬ (k : Int) < 0 := by omega
      have d1 : (k : Int) < (fs.length : Int) := by omega
      have d2 : ¬ (fs.length : Int) ≤ (k : Int) := by omega
      have HR := Lib.hid hR
      have HNIL := Lib.hid hnil
      clear hs hb hx hlb h0 h1 hk hR q0 q1 hnil
      go_enter Try.func32, Try.ntmps32
      go_upto_region 3 with (fail)
      obtain ⟨q0, q1⟩ := HQ.out _ (show Below w.heap.size w ((w.alloc (.cells #[.int .i64 base, .slice (some ⟨b, off, none⟩) fs.length cap, .slice N nn nc] 32)).alloc (.cells #[.int .i64 0, .string ⟨#[]⟩] 37)) from by go_grown)
      by_cases hx : x = 0
      · subst hx
        by_cases ht : t = []
        · subst ht
          have hre := HR.out
          rw [if_pos ⟨rfl, rfl⟩] at hre
          subst hre
          have e1 : txt [] = ByteArray.empty := rfl
          rw [e1] at q1
          go_wp2_with fail
          refine bodyPost_ret (v := .tuple #[.agg #[.int .i64 0, .string ByteArray.empty], .bool false]) (by simp [results, Try.results32, go_sem]; rfl) rfl ⟨rfl, by go_grown⟩
        · have hre := HR.out
          rw [if_neg (fun h => ht h.2)] at hre
          subst hre
          have hnil := HNIL.out
          rw [decide_eq_false ht] at hnil
          clear ht
          go_wp2_with fail
          refine bodyPost_ret (v := .tuple #[.agg #[.int .i64 0, .string (txt t)], .bool true]) (by simp [results, Try.results32, go_sem]) rfl ⟨rfl, by go_grown⟩
      · have hre := HR.out
        rw [if_neg (fun h => hx h.1)] at hre
        subst hre
        have dx : ((x : Int) == 0) = false := beq_eq_false_iff_ne.mpr (by omega)
        clear hx
        go_wp2_with fail
        refine bodyPost_ret (v := .tuple #[.agg #[.int .i64 x, .string (txt t)], .bool true]) (by simp [results, Try.results32, go_sem]) rfl ⟨rfl, by go_grown⟩
    · rw [if_neg (by omega)] at hR
      subst hR
      have d0 : ¬ ix < 0 := h0
      have d2 : (fs.length : Int) ≤ ix := by omega
      clear hs hb h1
      go_enter Try.func32, Try.ntmps32
      go_wp2_with fail
      refine bodyPost_ret (v := .tuple #[.agg #[.int .i64 0, .string ByteArray.empty], .bool false]) (by simp [results, Try.results32, go_sem]; rfl) rfl ⟨rfl, by go_grown⟩
end Go.Proofs.Ytbjabncefhgefaa
