/- law 7: functions and names told as they were written: the plain facts. -/
import Derived.Test.YtbjabncefhgefaaImgG
import Derived.Test.YtbjabncefhgefaaExpK
namespace Go.Proofs.Ytbjabncefhgefaa
open Go.ChangeShapes Go.WideShapes Go.ChangeAt Go.RowKit
set_option linter.unusedVariables false
set_option linter.unusedSimpArgs false

def tK : Nat → List Nat
  | 0 => [102]
  | 1 => []
  | 2 => [97, 46, 100, 108, 108, 46, 103]
  | _ => [98, 46, 35, 55]
def nmK (i : Nat) : List Nat := [110, 97 + i]
def fsK (v : Nat → Nat) (n : Nat) : List (List Nat) := (List.range n).map fun i => tK (v i)
def nsK (n : Nat) : List (List Nat) := (List.range n).map nmK
theorem fsK_len (v : Nat → Nat) (n : Nat) : (fsK v n).length = n := by simp [fsK]
theorem nsK_len (n : Nat) : (nsK n).length = n := by simp [nsK]
theorem fsK_succ (v : Nat → Nat) (n : Nat) : fsK v (n + 1) = fsK v n ++ [tK (v n)] := by simp [fsK, List.range_succ]
theorem nsK_succ (n : Nat) : nsK (n + 1) = nsK n ++ [nmK n] := by simp [nsK, List.range_succ]
theorem tK_ok (k : Nat) : Lb (tK k) ∧ (tK k).length ≤ 64 ∧ nonz (tK k) = true ∧ ((tK k).contains 46 = true → splitOk (tK k) = true) := by
  rcases k with _ | _ | _ | k
  · exact ⟨fun v hv => by simp [tK] at hv; omega, by decide, by decide, by decide⟩
  · exact ⟨fun v hv => by simp [tK] at hv, by decide, by decide, by decide⟩
  · exact ⟨fun v hv => by simp [tK] at hv; omega, by decide, by decide, fun _ => by decide +kernel⟩
  · exact ⟨fun v hv => by simp [tK] at hv; omega, by simp [tK], by simp [tK, nonz], fun _ => by
      have : splitOk [98, 46, 35, 55] = true := by decide +kernel
      exact this⟩
theorem nmK_lb {i : Nat} (h : i < 10) : Lb (nmK i) := by intro v hv; simp [nmK] at hv; omega
theorem nmK_ok {i : Nat} (h : i < 10) : (nmK i).length ≤ 60 ∧ nonz (nmK i) = true ∧ okSymL (nmK i) = true := by
  refine ⟨by simp [nmK], ?_, ?_⟩
  · simp [nonz, nmK]
  · simp [okSymL, nmK]; omega
theorem rises_all : ((List.range 11).all fun n => rises [] (nsK n)) = true := by decide +kernel
theorem rises_nsK {n : Nat} (h : n ≤ 10) : rises [] (nsK n) = true := List.all_eq_true.mp rises_all n (List.mem_range.mpr (by omega))

theorem fV_len : ∀ (l : List (List Nat)) (i : Nat), (fV i l).length = l.length
  | [], _ => rfl
  | s :: l, i => by simp [fV, fV_len l (i + 1)]
theorem fV_get : ∀ (l : List (List Nat)) (i j : Nat), j < l.length → (fV i l)[j]? = some (fV1 (i + j) (l.getD j []))
  | [], _, j, h => by simp at h
  | s :: l, i, 0, _ => by simp [fV]
  | s :: l, i, j + 1, h => by
    simp only [fV, List.getElem?_cons_succ]
    rw [fV_get l (i + 1) j (by simpa using h), show i + 1 + j = i + (j + 1) by omega]
    simp
theorem nV_len : ∀ (l : List (List Nat)) (i : Nat), (nV i l).length = l.length
  | [], _ => rfl
  | s :: l, i => by simp [nV, nV_len l (i + 1)]
theorem nV_get : ∀ (l : List (List Nat)) (i j : Nat), j < l.length → (nV i l)[j]? = some (l.getD j [], i + j)
  | [], _, j, h => by simp at h
  | s :: l, i, 0, _ => by simp [nV]
  | s :: l, i, j + 1, h => by
    simp only [nV, List.getElem?_cons_succ]
    rw [nV_get l (i + 1) j (by simpa using h), show i + 1 + j = i + (j + 1) by omega]
    simp
/-- What a function of each kind is. -/
def kF (j : Nat) : Nat → Option FnV
  | 0 => some (64 + j, [])
  | 1 => none
  | k + 2 => some (0, tK (k + 2))
theorem atM_K (v : Nat → Nat) {n j : Nat} (hj : j < n) : atM (fV 0 (fsK v n)) (j : Int) = kF j (v j) := by
  have hg : (fsK v n).getD j [] = tK (v j) := by simp [fsK, List.getD, hj]
  have e : (fV 0 (fsK v n)).getD (j : Int).toNat (0, []) = fV1 j (tK (v j)) := by
    rw [Int.toNat_natCast, List.getD_eq_getElem?_getD, fV_get _ _ _ (by rw [fsK_len]; exact hj), hg, Nat.zero_add]
    rfl
  unfold atM
  rw [fV_len, fsK_len, if_pos (by omega), e]
  rcases hv : v j with _ | _ | _ | k
  · have : fV1 j (tK 0) = (64 + j, []) := rfl
    rw [this, if_neg (by intro q; have := q.1; simp at this)]; rfl
  · rfl
  · rfl
  · rfl
theorem byName_K (fs : List FnV) : ∀ (n i j : Nat), i ≤ j → j < i + n → j < 10 → i + n ≤ 10 → byNameM fs (txt (nmK j)).toList (nV i ((List.range n).map fun k => nmK (i + k))) = atM fs (j : Int)
  | 0, i, j, h1, h2, _, _ => by omega
  | n + 1, i, j, h1, h2, h3, h4 => by
    have e : (List.range (n + 1)).map (fun k => nmK (i + k)) = nmK i :: (List.range n).map fun k => nmK (i + 1 + k) := by
      rw [List.range_succ_eq_map, List.map_cons, List.map_map]
      congr 1
      apply List.map_congr_left
      intro k _
      simp only [Function.comp]
      rw [show i + (k + 1) = i + 1 + k by omega]
    rw [e]
    simp only [nV, byNameM]
    have he : ((txt (nmK i)).toList == (txt (nmK j)).toList) = (nmK i == nmK j) := txt_eq (nmK_lb (by omega)) (nmK_lb h3)
    rw [he]
    by_cases c : i = j
    · subst c
      rw [if_pos (by simp)]
    · rw [if_neg (by
        intro q
        have := eq_of_beq q
        simp only [nmK, List.cons.injEq, and_true, true_and] at this
        omega)]
      exact byName_K fs n (i + 1) j (by omega) (by omega) h3 (by omega)
theorem byName_KK (fs : List FnV) {n j : Nat} (hj : j < n) (hn : n ≤ 10) : byNameM fs (txt (nmK j)).toList (nV 0 (nsK n)) = atM fs (j : Int) := by
  have h := byName_K fs n 0 j (by omega) (by omega) (by omega) (by omega)
  simp only [Nat.zero_add] at h
  exact h
theorem byOrd_K (fs : List FnV) (base j : Nat) : byOrdM fs base ((base : Int) + (j : Int)) = atM fs (j : Int) := by
  unfold byOrdM
  rw [if_neg (by omega), show (base : Int) + (j : Int) - (base : Int) = (j : Int) by omega]
theorem parse_K (v : Nat → Nat) (n base : Nat) (hn : n ≤ 10) (hb : base < 32768) :
    parseE (atE 256 (fsK v n) (nsK n) base) 256 (((atB 256 (fsK v n) n base).length : Int) - 256) = some (base, fV 0 (fsK v n), nV 0 (nsK n)) ∧ (atB 256 (fsK v n) n base).length ≤ 2000 ∧ 296 ≤ (atB 256 (fsK v n) n base).length ∧ (atE 256 (fsK v n) (nsK n) base).length ≤ 100000 := by
  have h := parse_at base (fsK v n) (nsK n) (by rw [fsK_len]; omega) (by rw [fsK_len, nsK_len]; omega) (by rw [fsK_len]; omega) (by omega) (fun s hs => by
    obtain ⟨i, _, rfl⟩ := List.mem_map.mp hs
    exact (tK_ok _).2) (fun s hs => by
    obtain ⟨i, hi, rfl⟩ := List.mem_map.mp hs
    exact nmK_ok (by have := List.mem_range.mp hi; omega)) (rises_nsK hn)
  rwa [nsK_len] at h
end Go.Proofs.Ytbjabncefhgefaa
