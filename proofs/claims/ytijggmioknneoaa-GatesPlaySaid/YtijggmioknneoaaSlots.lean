/- The numbers that threads have (package gates). -/
import Derived.Test.YtijggmioknneoaaKept
namespace Go.Proofs.Ytijggmioknneoaa
open Go.ChangeShapes Go.WideShapes Go.ChangeAt Go.RowKit
open Go.Maps (Keyed)
set_option linter.unusedVariables false
set_option linter.unusedSimpArgs false

theorem ret_int {k : IntKind} {a b : Int} (h : a = b) : Ending.returned (.int k a) = .returned (.int k b) := by rw [h]

theorem zeroPtrG (w : World) : (zeroValue 61).run Try.prog w = .ok (.pointer none) w := by kernel_rfl

/-- Slots at s: m threads; thread t's row lies in block f t; what it holds is v t. -/
structure SlotsIn (w : World) (s bm m : Nat) (f : Int → Option Nat) (v : Int → Nat → Int) : Prop where
  ptr : w.cell? ⟨s, 0, none⟩ = some (.map (some bm))
  slt : s < w.heap.size
  map : PM w Try.prog 3 .i64 bm m f
  row : ∀ t B, f t = some B → Own w B 32 (fun i => .int .u64 (v t i))
  inj : ∀ t t' B, f t = some B → f t' = some B → t = t'
  nos : ∀ t B, f t = some B → B ≠ s
  nil : ∀ t, f t = none → ∀ i, v t i = 0
  pos : ∀ t B, f t = some B → 0 < t

/-- Slots at s, of no block of R; at most n threads. -/
def SlotsAt (R : Nat → Prop) (w : World) (s n : Nat) (v : Int → Nat → Int) : Prop :=
  ∃ bm m f, SlotsIn w s bm m f v ∧ m ≤ n ∧ ¬ R s ∧ ¬ R bm ∧ (∀ t B, f t = some B → ¬ R B) ∧ ∀ k, R k → k < w.heap.size

def getV (v : Int → Nat → Int) (t i : Int) : Int := if 0 < t ∧ 0 ≤ i ∧ i < 32 then v t i.toNat else 0

theorem newSlots_any (R : Nat → Prop) (w : World) (hR : ∀ k, R k → k < w.heap.size) : Calls Try.prog 4 #[] w fun e w' => ∃ s, e = .returned (.pointer (some ⟨s, 0, none⟩)) ∧ SlotsAt R w' s 0 (fun _ _ => 0) ∧ Kept R w w' := by
  have hmm := @run_makeMap Try.prog
  go_enter Try.func4, Try.ntmps4
  go_wp2
  go_ret
  refine ⟨w.heap.size + 1, rfl, ⟨w.heap.size, 0, fun _ => none, ⟨by simp [go_sem], by simp, (PM.made w _ _ _).kept (World.grownBy_alloc _ _ none) (by simp), fun _ _ h => by (cases h), fun _ _ _ h => by (cases h), fun _ _ h => by (cases h), fun _ _ _ => rfl, fun _ _ h => by (cases h)⟩, Nat.le_refl _, fun h => by (have := hR _ h; omega), fun h => by (have := hR _ h; omega), fun _ _ h => by (cases h), fun k h => by (have := hR _ h; simp; omega)⟩, ((Kept.refl R w).alloc hR _).alloc hR _⟩

theorem slotOk_yes (t i : Int) (w : World) (ht : 0 < t) (h0 : 0 ≤ i) (h1 : i < 32) : Calls Try.prog 17 #[.int .i64 t, .int .i64 i] w fun e w' => e = .returned (.bool true) ∧ w = w' := by
  go_enter Try.func17, Try.ntmps17
  go_wp2
  go_ret
  exact ⟨rfl, rfl⟩

theorem slotOk_no (t i : Int) (w : World) (h : ¬ (0 < t ∧ 0 ≤ i ∧ i < 32)) : Calls Try.prog 17 #[.int .i64 t, .int .i64 i] w fun e w' => e = .returned (.bool false) ∧ w = w' := by
  by_cases c1 : 0 < t
  · by_cases c2 : 0 ≤ i
    · have c3 : decide (i < 32) = false := by rw [decide_eq_false_iff_not]; omega
      clear h
      go_enter Try.func17, Try.ntmps17
      go_wp2
      go_ret
      exact ⟨rfl, rfl⟩
    · clear h
      go_enter Try.func17, Try.ntmps17
      go_wp2
      go_ret
      exact ⟨rfl, rfl⟩
  · clear h
    go_enter Try.func17, Try.ntmps17
    go_wp2
    go_ret
    exact ⟨rfl, rfl⟩

theorem get_any (R : Nat → Prop) (w : World) (s n : Nat) (v : Int → Nat → Int) (t i : Int) (ht : (Lit.int .i64 t).wf = true) (H : SlotsAt R w s n v) :
    Calls Try.prog 10 #[.pointer (some ⟨s, 0, none⟩), .int .i64 t, .int .i64 i] w fun e w' => e = .returned (.int .u64 (getV v t i)) ∧ w = w' := by
  obtain ⟨bm, m, f, S, hm, _⟩ := H
  have hp := S.ptr
  have hl := S.map.lookup (e := 61) Try.underlying3 Try.underlying45 zeroPtrG t ht
  cases hf : f t with
  | none =>
    have hv : getV v t i = 0 := by
      unfold getV
      split
      · exact S.nil t hf _
      · rfl
    rw [hf] at hl
    have HV := Lib.hid hv
    clear hf hv
    simp only [ptrV] at hl
    go_enter Try.func10, Try.ntmps10
    go_wp2
    go_ret
    exact ⟨ret_int HV.out.symm, rfl⟩
  | some B =>
    have ht0 := S.pos t B hf
    have hrow := S.row t B hf
    rw [hf] at hl
    simp only [ptrV] at hl
    clear hf
    by_cases hi : 0 ≤ i ∧ i < 32
    · obtain ⟨h0, h1⟩ := hi
      obtain ⟨j, rfl⟩ := Int.eq_ofNat_of_zero_le h0
      have hc := hrow.cell (i := j) (by omega)
      have hv : getV v t j = v t j := by unfold getV; rw [if_pos ⟨ht0, by omega, h1⟩, Int.toNat_natCast]
      have HV := Lib.hid hv
      clear hv
      go_enter Try.func10, Try.ntmps10
      go_wp2_with (go_at_call 17; refine (slotOk_yes _ _ _ ht0 h0 h1).mono ?_; rintro e w' ⟨rfl, rfl⟩)
      go_ret
      exact ⟨ret_int HV.out.symm, rfl⟩
    · have hv : getV v t i = 0 := by unfold getV; rw [if_neg (fun h => hi h.2)]
      have HV := Lib.hid hv
      clear hv
      have hi' : ¬ (0 < t ∧ 0 ≤ i ∧ i < 32) := fun h => hi h.2
      have HI := Lib.hid hi'
      clear hi hi'
      go_enter Try.func10, Try.ntmps10
      go_wp2_with (go_at_call 17; refine (slotOk_no _ _ _ HI.out).mono ?_; rintro e w' ⟨rfl, rfl⟩)
      go_ret
      exact ⟨ret_int HV.out.symm, rfl⟩

theorem own_zero32 (w : World) (T : TypeId) : Own (w.alloc (.cells (Array.replicate 32 (.int .u64 0)) T)) w.heap.size 32 (fun _ => .int .u64 0) := by
  refine ⟨by simp, fun i hi => ⟨?_, ?_⟩⟩
  · simp [go_sem, hi]
  · simp [go_sem]

/-- A number turned. -/
def putV (v : Int → Nat → Int) (t : Int) (i : Nat) (x : Int) : Int → Nat → Int := fun t' i' => if t' = t ∧ i' = i then x else v t' i'

theorem set_no (w : World) (s : Nat) (t i x : Int) (h : ¬ (0 < t ∧ 0 ≤ i ∧ i < 32)) :
    Calls Try.prog 9 #[.pointer (some ⟨s, 0, none⟩), .int .i64 t, .int .i64 i, .int .u64 x] w fun e w' => e = .returned (.bool false) ∧ w = w' := by
  have HI := Lib.hid h
  clear h
  go_enter Try.func9, Try.ntmps9
  go_wp2_with (go_at_call 17; refine (slotOk_no _ _ _ HI.out).mono ?_; rintro e w' ⟨rfl, rfl⟩)
  go_ret
  exact ⟨rfl, rfl⟩

theorem SlotsIn.stored {w : World} {s bm m : Nat} {f : Int → Option Nat} {v : Int → Nat → Int} (S : SlotsIn w s bm m f v) {t x : Int} {i B : Nat} (hf : f t = some B) (hi : i < 32) :
    SlotsIn (w.setCell ⟨B, i, none⟩ (.int .u64 x)) s bm m f (putV v t i x) := by
  have hBs := S.nos t B hf
  have hBb := S.map.own_ne (S.row t B hf |>.cell hi)
  refine ⟨?_, by simpa [World.setCell] using S.slt, S.map.of_block (Below.heap_setCell _ _ _ _ (by simpa using hBb.symm)), fun t' B' hf' => ?_, S.inj, S.nos, fun t' hf' i' => ?_, S.pos⟩
  · rw [World.cell?_of_block (Below.heap_setCell w ⟨B, i, none⟩ _ s (by simpa using hBs.symm))]
    exact S.ptr
  · by_cases e : t' = t
    · subst e
      rw [hf] at hf'
      cases hf'
      refine ((S.row t' B hf).set hi (.int .u64 x)).congr fun j _ => ?_
      unfold putV
      by_cases e : j = i
      · rw [if_pos e, if_pos ⟨rfl, e⟩]
      · rw [if_neg e, if_neg (fun h => e h.2)]
    · have hne : B' ≠ B := fun h => e (S.inj t' t B (h ▸ hf') hf)
      refine ((S.row t' B' hf').of_block (Below.heap_setCell w ⟨B, i, none⟩ _ B' (by simpa using hne)) (by simp [World.setCell])).congr fun j _ => ?_
      unfold putV
      rw [if_neg (fun h => e h.1)]
  · unfold putV
    rw [if_neg]
    · exact S.nil t' hf' i'
    · rintro ⟨rfl, _⟩
      rw [hf] at hf'
      cases hf'

/-- A thread's row is made. -/
theorem SlotsIn.joined {w w0 w' : World} {s bm m : Nat} {f : Int → Option Nat} {v : Int → Nat → Int} (S : SlotsIn w s bm m f v) {t : Int} {m' : Nat} (hf : f t = none) (ht : 0 < t) (hw : Below w.heap.size w w0) (hg : w0.grownBy w' (some bm))
    (hP : PM w' Try.prog 3 .i64 bm m' (upd f t (some w.heap.size))) (hO : Own w0 w.heap.size 32 (fun _ => .int .u64 0)) :
    SlotsIn w' s bm m' (upd f t (some w.heap.size)) v := by
  have hbl := S.map.lt
  have keep : ∀ k, k < w.heap.size → k ≠ bm → w'.heap[k]? = w.heap[k]? := fun k hk hne =>
    (hg.block k (Nat.lt_of_lt_of_le hk hw.size) (by simpa using hne)).trans (hw.block k hk)
  have hsb : s ≠ bm := S.map.own_ne S.ptr
  have hsz : w.heap.size ≤ w'.heap.size := Nat.le_trans hw.size hg.size
  refine ⟨?_, Nat.lt_of_lt_of_le S.slt hsz, hP, fun t' B' hf' => ?_, fun t1 t2 B h1 h2 => ?_, fun t' B' hf' => ?_, fun t' hf' i' => ?_, fun t' B' hf' => ?_⟩
  · rw [World.cell?_of_block (keep s S.slt hsb)]; exact S.ptr
  · by_cases e : t' = t
    · subst e
      rw [upd_same] at hf'
      cases hf'
      exact (hO.grown hg (by simp; omega)).congr fun j _ => by rw [S.nil t' hf]
    · rw [upd_other f _ e] at hf'
      have hr := S.row t' B' hf'
      exact hr.of_block (keep B' hr.1 (S.map.own_ne (hr.cell (i := 0) (by omega)))) hsz
  · by_cases e1 : t1 = t <;> by_cases e2 : t2 = t
    · rw [e1, e2]
    · subst e1
      rw [upd_same] at h1
      rw [upd_other f _ e2] at h2
      cases h1
      have := (S.row t2 _ h2).1
      omega
    · subst e2
      rw [upd_same] at h2
      rw [upd_other f _ e1] at h1
      cases h2
      have := (S.row t1 _ h1).1
      omega
    · rw [upd_other f _ e1] at h1
      rw [upd_other f _ e2] at h2
      exact S.inj t1 t2 B h1 h2
  · by_cases e : t' = t
    · subst e
      rw [upd_same] at hf'
      cases hf'
      have := S.slt
      omega
    · rw [upd_other f _ e] at hf'
      exact S.nos t' B' hf'
  · by_cases e : t' = t
    · subst e
      exact S.nil t' hf i'
    · rw [upd_other f _ e] at hf'
      exact S.nil t' hf' i'
  · by_cases e : t' = t
    · subst e; exact ht
    · rw [upd_other f _ e] at hf'
      exact S.pos t' B' hf'

theorem set_yes (R : Nat → Prop) (w : World) (s n : Nat) (v : Int → Nat → Int) (t x : Int) (i : Nat) (ht : (Lit.int .i64 t).wf = true) (h0 : 0 < t) (h1 : i < 32) (hn : n < maxLen) (H : SlotsAt R w s n v) :
    Calls Try.prog 9 #[.pointer (some ⟨s, 0, none⟩), .int .i64 t, .int .i64 i, .int .u64 x] w fun e w' => e = .returned (.bool true) ∧ SlotsAt R w' s (n + 1) (putV v t i x) ∧ Kept R w w' := by
  obtain ⟨bm, m, f, S, hm, hRs, hRb, hRB, hR⟩ := H
  have hp := S.ptr
  have i0 : (0 : Int) ≤ i := by omega
  have i1 : (i : Int) < 32 := by omega
  have hl := S.map.lookup (e := 61) Try.underlying3 Try.underlying45 zeroPtrG t ht
  cases hf : f t with
  | some B =>
    have hrow := S.row t B hf
    rw [hf] at hl
    simp only [ptrV] at hl
    have hc := hrow.cell h1
    have hz := hrow.frozen h1
    have HF := Lib.hid hf
    clear hf
    go_enter Try.func9, Try.ntmps9
    go_wp2_with (go_at_call 17; refine (slotOk_yes _ _ _ h0 i0 i1).mono ?_; rintro e w' ⟨rfl, rfl⟩)
    go_ret
    exact ⟨rfl, ⟨bm, m, f, S.stored HF.out h1, by omega, hRs, hRb, hRB, fun k hk => by simpa [World.setCell] using hR k hk⟩, (Kept.refl R w).setCell (hRB t B HF.out) _⟩
  | none =>
    rw [hf] at hl
    simp only [ptrV] at hl
    have hsl := S.slt
    have hsn : s ≠ w.heap.size := by omega
    have hbn : w.heap.size ≠ bm := by have := S.map.lt; omega
    have hP : ∀ X, PM (w.alloc X) Try.prog 3 .i64 bm m f := fun X => S.map.kept (World.grownBy_alloc w X none) (by simp)
    have hpx : ∀ X, (w.alloc X).cell? ⟨s, 0, none⟩ = some (.map (some bm)) := fun X => by rw [World.cell?_of_block (Below.heap_alloc w X s hsl)]; exact hp
    have HF := Lib.hid hf
    have HP := Lib.hid hP
    have HSN := Lib.hid hsn
    have hmn : m < maxLen := by omega
    clear hf hP hsn
    go_enter Try.func9, Try.ntmps9
    go_wp2_with (first | (go_at_call 17; refine (slotOk_yes _ _ _ h0 i0 i1).mono ?_; rintro e w' ⟨rfl, rfl⟩) | (at_mapUpdate; refine wpList_mapUpdate_pm _ rfl _ _ _ 45 rfl 3 61 .i64 Try.underlying3 Try.underlying45 bm m f rfl (HP.out _) hmn t rfl ht w.heap.size rfl ?_; intro w1 hP1 hg1; have hO := (own_zero32 w _).grown hg1 (by simpa using hbn); have hc := hO.cell h1; have hz := hO.frozen h1; have HG := Lib.hid hg1; have HP1 := Lib.hid hP1; have HO := Lib.hid hO; clear hg1 hP1 hO))
    go_ret
    have J := SlotsIn.joined S HF.out h0 ((Below.refl _ _).alloc (Nat.le_refl _) _) HG.out HP1.out (own_zero32 w _)
    have hsz : w.heap.size < w1.heap.size := by have := HG.out.size; simp at this; omega
    refine ⟨rfl, ⟨bm, if (f t).isSome then m else m + 1, upd f t (some w.heap.size), J.stored (upd_same _ _ _) h1, ?_, hRs, hRb, fun t' B' hf' => ?_, fun k hk => ?_⟩, ?_⟩
    · split <;> omega
    · by_cases e : t' = t
      · subst e
        rw [upd_same] at hf'
        cases hf'
        intro h
        have := hR _ h
        omega
      · rw [upd_other f _ e] at hf'
        exact hRB t' B' hf'
    · have := hR k hk
      simp [World.setCell]
      omega
    · refine (((Kept.refl R w).alloc hR _).grown HG.out hR (fun k hk => ?_)).setCell (fun h => ?_) _
      · cases hk; exact hRb
      · have := hR _ h
        simp at this
end Go.Proofs.Ytijggmioknneoaa
