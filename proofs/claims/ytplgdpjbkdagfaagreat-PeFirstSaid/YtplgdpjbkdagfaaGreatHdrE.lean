/- package hdr: name. -/
import Derived.Test.YtplgdpjbkdagfaaGreatHdrD
namespace Go.Proofs.YtplgdpjbkdagfaaGreat
set_option maxRecDepth 100000
open Go.ChangeShapes Go.WideShapes Go.ChangeAt Go.RowKit
set_option linter.unusedVariables false
set_option linter.unusedSimpArgs false

/-- How many bytes of n from o on stand ahead of the first nought. -/
def firstZ (f : Nat → Int) (o : Nat) : Nat → Nat
  | 0 => 0
  | n + 1 => if f o = 0 then 0 else firstZ f (o + 1) n + 1

theorem firstZ_le (f : Nat → Int) (o n : Nat) : firstZ f o n ≤ n := by
  induction n generalizing o with
  | zero => simp [firstZ]
  | succ n ih => unfold firstZ; split; omega; have := ih (o + 1); omega

theorem indexByte_firstZ (f : Nat → Int) (hf : Bytes255 f) (o n : Nat) : Lib.indexByte (Lib.bytesOf ((List.range n).map fun i => f (o + i))) 0 = if firstZ f o n = n then -1 else (firstZ f o n : Int) := by
  induction n generalizing o with
  | zero => simp [firstZ, Lib.bytesOf, Lib.indexByte]
  | succ n ih =>
    have h1 : (List.range (n + 1)).map (fun i => f (o + i)) = f o :: (List.range n).map (fun i => f (o + 1 + i)) := by
      rw [List.range_succ_eq_map, List.map_cons, List.map_map]
      simp only [Nat.add_zero, List.cons.injEq, true_and]
      exact List.map_congr_left fun i _ => by simp only [Function.comp]; congr 1; omega
    rw [h1]
    have h2 : Lib.bytesOf (f o :: (List.range n).map (fun i => f (o + 1 + i))) = (f o).toNat.toUInt8 :: Lib.bytesOf ((List.range n).map (fun i => f (o + 1 + i))) := by simp [Lib.bytesOf]
    rw [h2]
    unfold Lib.indexByte firstZ
    rw [ih (o + 1)]
    have hl := firstZ_le f (o + 1) n
    have hb := hf o
    by_cases e : f o = 0
    · simp [e]
    · have e2 : ((f o).toNat.toUInt8 == 0) = false := by
        rw [beq_eq_false_iff_ne]
        intro h
        have := congrArg UInt8.toNat h
        simp at this
        omega
      rw [e2, if_neg e]
      by_cases e3 : firstZ f (o + 1) n = n
      · simp [e3]
      · have e4 : ((firstZ f (o + 1) n : Int) == -1) = false := by rw [beq_eq_false_iff_ne]; omega
        have e5 : ¬ (firstZ f (o + 1) n + 1 = n + 1) := by omega
        simp [e3, e4]

/-- A section's name that stands at o. -/
def nameS (f : Nat → Int) (o : Nat) : ByteArray := strF f o (firstZ f o 8)

theorem name_any (b off n cap : Nat) (f : Nat → Int) (o c : Nat) (w : World) (h : RowB w b off n cap f) (ho : o + 8 ≤ n) (hc : 8 ≤ c) :
    Calls Tryz.prog 105 #[.slice (some ⟨b, off + o, none⟩) 8 c] w fun e w' => e = .returned (.string (nameS f o)) ∧ w = w' := by
  have hi := Tryz.bytes_IndexByte b (off + o) 8 c ((List.range 8).map fun i => f (o + i)) 0 w (by simp) (fun i hi => by
    rw [Nat.add_assoc, h.row (o + i) (by omega)]
    congr 2
    simp [hi])
  have h0 : ((0 : Int).toNat.toUInt8) = 0 := rfl
  rw [h0, indexByte_firstZ f h.by255] at hi
  have hl := firstZ_le f o 8
  have hs := run_str_at (cap := c) h.row (show o + firstZ f o 8 ≤ n by omega)
  unfold nameS
  generalize firstZ f o 8 = k at *
  have HI := Lib.hid hi
  clear hi h h0
  by_cases e : k = 8
  · subst e
    rw [if_pos rfl] at HI
    go_enter Tryz.func105, Tryz.ntmps105
    go_wp2_with (go_fit HI.out; rintro e w' ⟨rfl, rfl⟩)
    go_ret
    exact ⟨rfl, rfl⟩
  · rw [if_neg e] at HI
    go_enter Tryz.func105, Tryz.ntmps105
    go_wp2_with (go_fit HI.out; rintro e w' ⟨rfl, rfl⟩)
    go_ret
    exact ⟨rfl, rfl⟩
end Go.Proofs.YtplgdpjbkdagfaaGreat
