/- The numbers that threads have: cleared, freed; what the document fixes. -/
import Derived.Test.YtijggmioknneoaaSlots
namespace Go.Proofs.Ytijggmioknneoaa
open Go.ChangeShapes Go.WideShapes Go.ChangeAt Go.RowKit
open Go.Maps (Keyed)
set_option linter.unusedVariables false
set_option linter.unusedSimpArgs false

def clearV (v : Int → Nat → Int) (t : Int) : Int → Nat → Int := fun t' i => if t' = t then 0 else v t' i

theorem SlotsIn.of_blocks {w w' : World} {s bm m : Nat} {f : Int → Option Nat} {v : Int → Nat → Int} (S : SlotsIn w s bm m f v) (h : ∀ k, k = s ∨ k = bm ∨ (∃ t, f t = some k) → w'.heap[k]? = w.heap[k]?) (hs : w.heap.size ≤ w'.heap.size) : SlotsIn w' s bm m f v :=
  ⟨by rw [World.cell?_of_block (h s (Or.inl rfl))]; exact S.ptr, Nat.lt_of_lt_of_le S.slt hs, S.map.of_block (h bm (Or.inr (Or.inl rfl))), fun t B hf => (S.row t B hf).of_block (h B (Or.inr (Or.inr ⟨t, hf⟩))) hs, S.inj, S.nos, S.nil, S.pos⟩

theorem SlotsIn.vals {w : World} {s bm m : Nat} {f : Int → Option Nat} {v v' : Int → Nat → Int} (S : SlotsIn w s bm m f v) (h : ∀ t i, v' t i = v t i) : SlotsIn w s bm m f v' :=
  ⟨S.ptr, S.slt, S.map, fun t B hf => (S.row t B hf).congr fun j _ => by rw [h], S.inj, S.nos, fun t hf i => by rw [h]; exact S.nil t hf i, S.pos⟩

theorem SlotsIn.cleared {w w' : World} {s bm m m' : Nat} {f : Int → Option Nat} {v : Int → Nat → Int} (S : SlotsIn w s bm m f v) (t : Int) (hg : w.grownBy w' (some bm)) (hP : PM w' Try.prog 3 .i64 bm m' (upd f t none)) :
    SlotsIn w' s bm m' (upd f t none) (clearV v t) := by
  have sub : ∀ t' B, upd f t none t' = some B → t' ≠ t ∧ f t' = some B := fun t' B h => by
    by_cases e : t' = t
    · rw [e, upd_same] at h; cases h
    · rw [upd_other f _ e] at h; exact ⟨e, h⟩
  refine ⟨?_, Nat.lt_of_lt_of_le S.slt hg.size, hP, fun t' B hf => ?_, fun t1 t2 B h1 h2 => S.inj t1 t2 B (sub _ _ h1).2 (sub _ _ h2).2, fun t' B hf => S.nos t' B (sub _ _ hf).2, fun t' hf i => ?_, fun t' B hf => S.pos t' B (sub _ _ hf).2⟩
  · rw [World.cell?_of_block (hg.block s S.slt (by simpa using S.map.own_ne S.ptr))]; exact S.ptr
  · obtain ⟨e, hf⟩ := sub _ _ hf
    have hr := S.row t' B hf
    refine (hr.of_block (hg.block B hr.1 (by simpa using S.map.own_ne (hr.cell (i := 0) (by omega)))) hg.size).congr fun j _ => ?_
    unfold clearV
    rw [if_neg e]
  · unfold clearV
    by_cases e : t' = t
    · rw [if_pos e]
    · rw [if_neg e]
      rw [upd_other f _ e] at hf
      exact S.nil t' hf i

theorem clear_any (R : Nat → Prop) (w : World) (s n : Nat) (v : Int → Nat → Int) (t : Int) (ht : (Lit.int .i64 t).wf = true) (H : SlotsAt R w s n v) :
    Calls Try.prog 11 #[.pointer (some ⟨s, 0, none⟩), .int .i64 t] w fun e w' => e = .returned (.tuple #[]) ∧ SlotsAt R w' s n (clearV v t) ∧ Kept R w w' := by
  obtain ⟨bm, m, f, S, hm, hRs, hRb, hRB, hR⟩ := H
  have hp := S.ptr
  go_enter Try.func11, Try.ntmps11
  go_wp2_with (at_delete; refine wpList_delete_pm _ rfl _ _ 45 3 rfl 61 .i64 Try.underlying3 Try.underlying45 bm m f rfl S.map t rfl ht ?_; intro w1 hP1 hg1; have HG := Lib.hid hg1; have HP1 := Lib.hid hP1; clear hg1 hP1)
  go_end0
  refine ⟨rfl, ⟨bm, if (f t).isSome then m - 1 else m, upd f t none, S.cleared t HG.out HP1.out, ?_, hRs, hRb, fun t' B hf => ?_, fun k hk => ?_⟩, (Kept.refl R w).grown HG.out hR (fun k hk => ?_)⟩
  · split <;> omega
  · by_cases e : t' = t
    · rw [e, upd_same] at hf; cases hf
    · rw [upd_other f _ e] at hf; exact hRB t' B hf
  · have := hR k hk
    have := HG.out.size
    omega
  · cases hk; exact hRb

/-- Whether a key is still to come, and what its row holds by then. -/
def mixV (left : Lit → Bool) (v : Int → Nat → Int) (i : Nat) : Int → Nat → Int := fun t j => if left (.int .i64 t) = false ∧ j = i then 0 else v t j
def freeV (v : Int → Nat → Int) (i : Nat) : Int → Nat → Int := fun t j => if j = i then 0 else v t j

theorem World.grownBy.refl' (w : World) (row : Option Nat) : w.grownBy w row := ⟨rfl, rfl, rfl, Nat.le_refl _, fun _ _ _ => rfl⟩

theorem intKeyInv : ∀ key kl, keyOf Try.prog 3 key = some kl → ∃ x, key = Value.int .i64 x := fun key kl hkey => by
  obtain ⟨x, rfl, _⟩ := Maps.keyOf_int_inv Try.underlying3 hkey
  exact ⟨x, rfl⟩
theorem ptrVInv : ∀ u y, ptrR u = some y → ∃ c, u = ptrV c := fun u y hv => by
  rcases ptrR_inv hv with ⟨rfl, _⟩ | ⟨b', rfl, _⟩
  · exact ⟨none, rfl⟩
  · exact ⟨some b', rfl⟩

theorem free_no (w : World) (s : Nat) (i : Int) (h : ¬ (0 ≤ i ∧ i < 32)) :
    Calls Try.prog 12 #[.pointer (some ⟨s, 0, none⟩), .int .i64 i] w fun e w' => e = .returned (.tuple #[]) ∧ w = w' := by
  by_cases c : i < 0
  · have c0 : decide (i < 0) = true := decide_eq_true c
    clear h c
    go_enter Try.func12, Try.ntmps12
    go_wp2
    exact bodyPost_ret (v := .tuple #[]) (by simp [results, Try.results12, go_sem]) rfl ⟨rfl, rfl⟩
  · have c2 : decide (32 ≤ i) = true := decide_eq_true (by omega)
    have c0 : decide (i < 0) = false := decide_eq_false c
    clear h c
    go_enter Try.func12, Try.ntmps12
    go_wp2
    exact bodyPost_ret (v := .tuple #[]) (by simp [results, Try.results12, go_sem]) rfl ⟨rfl, rfl⟩

theorem free_yes (R : Nat → Prop) (w : World) (s n i : Nat) (v : Int → Nat → Int) (hi : i < 32) (H : SlotsAt R w s n v) :
    Calls Try.prog 12 #[.pointer (some ⟨s, 0, none⟩), .int .i64 i] w fun e w' => e = .returned (.tuple #[]) ∧ SlotsAt R w' s n (freeV v i) ∧ Kept R w w' := by
  obtain ⟨bm, m, f, S, hm, hRs, hRb, hRB, hR⟩ := H
  have hp := S.ptr
  have i0 : (0 : Int) ≤ i := by omega
  have i1 : (i : Int) < 32 := by omega
  have d0 : decide ((i : Int) < 0) = false := decide_eq_false (by omega)
  have d1 : decide ((32 : Int) ≤ i) = false := decide_eq_false (by omega)
  obtain ⟨D, hown, hsize, hfD⟩ := S.map
  have K := Maps.int_keyed (P := Try.prog) Try.underlying3
  have hhas := fun x => PM.has ⟨D, hown, hsize, hfD⟩ hfD x
  have HD := Lib.hid hfD
  have HH := Lib.hid hhas
  have HSZ := Lib.hid hsize
  clear hfD hhas hsize
  have hbs := S.slt
  have hbb := S.map.lt
  go_enter Try.func12, Try.ntmps12
  go_wp2_with (first
    | (at_range; refine wpList_range_own _ rfl _ 45 rfl 3 61 K Try.underlying45 _ bm m _ rfl hown ?_; intro w0 hrg0 hg0 hs0)
    | go_in)
  go_frame
  have HS0 := Lib.hid hs0
  clear hs0
  go_loopw [] (fun wr => ∃ (left : Lit → Bool) (cnt : Nat), wr.ranges Try.prog 3 ptrR bm w.heap.size m D left cnt ∧ SlotsIn wr s bm m f (mixV left v i) ∧ Kept R w wr)
    (fun wr => wr.rangeLeft bm w.heap.size)
  case atStart =>
    refine ⟨_, _, hrg0, (S.of_blocks (fun k hk => ?_) hg0.size).vals fun t j => ?_, (Kept.refl R w).grown hg0 hR (fun k hk => by cases hk)⟩
    · have hlt : k < w.heap.size := by
        rcases hk with rfl | rfl | ⟨t, ht⟩
        · exact hbs
        · exact hbb
        · exact (S.row t k ht).1
      exact hg0.block k hlt (by simp)
    · unfold mixV
      split
      · rename_i h
        rw [HH.out] at h
        rw [S.nil t (by cases hft : f t with | none => rfl | some B => rw [hft] at h; simp at h)]
      · rfl
  case round =>
    obtain ⟨left, cnt, hrg, S1, hk1⟩ := hrel
    have HK := Lib.hid hk1
    clear hk1
    go_wp2_with (first
      | (at_next; refine wpList_next_ranges _ rfl _ rfl 3 K ptrR (Value.int .i64) ptrV intKeyInv ptrVInv bm w.heap.size m D left cnt rfl hrg ?_ ?_)
      | go_in)
    · intro _ hl0
      go_wp2
      go_end0
      refine ⟨rfl, ⟨bm, m, f, S1.vals fun t j => ?_, hm, hRs, hRb, hRB, fun k hk => Nat.lt_of_lt_of_le (hR k hk) HK.out.size⟩, HK.out⟩
      unfold freeV mixV
      rw [hl0]
      simp
    · intro x c kl y pl w1 cnt1 hkey hlx hRc hat hrg1 hlt hg1 hs1 hen
      obtain ⟨x', ex, rfl, hwx⟩ := Maps.keyOf_int_inv Try.underlying3 hkey
      cases ex
      have hfx : f x = c ∧ c ≠ none := by
        have h1 := hat (.lit (.int .i64 (-1)))
        have h2 := hat .nil
        rw [HD.out] at h1 h2
        cases hc : f x with
        | none => rw [hc] at h1 h2; simp [ptrD] at h1 h2; rw [← h1] at h2; cases h2
        | some B =>
          rw [hc] at h1
          rcases ptrR_inv hRc with ⟨e, e2⟩ | ⟨b', e, e2⟩
          · cases e2; simp [ptrD] at h1
          · cases e2
            simp [ptrD] at h1
            cases c with
            | none => simp [ptrV] at e
            | some c' =>
              simp [ptrV] at e
              exact ⟨by rw [e]; congr 1; omega, by simp⟩
      obtain ⟨rfl, hcn⟩ := hfx
      cases hfx : f x with
      | none => exact absurd hfx hcn
      | some B =>
        rw [hfx] at hen
        simp only [ptrV] at hen
        have hS2 : SlotsIn w1 s bm m f (mixV left v i) := S1.of_blocks (fun k hk => by
          refine hg1.block k ?_ ?_
          · rcases hk with rfl | rfl | ⟨t, ht⟩
            · exact S1.slt
            · exact S1.map.lt
            · exact (S1.row t k ht).1
          · rcases hk with rfl | rfl | ⟨t, ht⟩ <;> simp
            · omega
            · omega
            · have := (S.row t k ht).1; omega) (by omega)
        have hrow := hS2.row x B hfx
        have hc := hrow.cell hi
        have hz := hrow.frozen hi
        have HS2 := Lib.hid hS2
        have HF := Lib.hid hfx
        have HG1 := Lib.hid hg1
        have HS1 := Lib.hid hs1
        clear hS2 hg1 hs1 hfx hcn hkey hlx hRc hat
        go_wp2
        go_roundw
        case rel =>
          have hne : bm ≠ B := (HS2.out.map.own_ne (HS2.out.row x B HF.out |>.cell hi)).symm
          have hBlt := (S.row x B HF.out).1
          refine ⟨_, cnt1, hrg1.kept (row := some B) (only_setCell (World.grownBy.refl' w1 (some B)) (Or.inl rfl) _) (by simpa using hne) (by simp; omega), (HS2.out.stored HF.out hi).vals fun t j => ?_, ?_⟩
          · unfold mixV putV
            by_cases e : t = x
            · subst e
              by_cases ej : j = i
              · simp [ej, Lit.sameKey]
              · simp [ej]
            · simp [e, Lit.sameKey]
          · refine ((HK.out.trans ((Kept.refl R wr).grown HG1.out (fun k hk => Nat.lt_of_lt_of_le (hR k hk) HK.out.size) (fun k hk h => ?_))).setCell (hRB x B HF.out) _)
            cases hk
            have := hR _ h
            omega
        case measure =>
          rw [(hrg1.kept (row := some B) (only_setCell (World.grownBy.refl' w1 (some B)) (Or.inl rfl) _) (by simpa using (HS2.out.map.own_ne (HS2.out.row x B HF.out |>.cell hi)).symm) (by simp; have := (S.row x B HF.out).1; omega)).left_eq, hrg.left_eq]
          exact hlt
end Go.Proofs.Ytijggmioknneoaa
