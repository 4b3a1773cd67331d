import Derived.Test.YtplgdpjbkdagfaaGreatPeT
import Derived.Test.YtplgdpjbkdagfaaGreatZPeD
namespace Go.Proofs.YtplgdpjbkdagfaaGreat
open Go.ChangeShapes Go.WideShapes Go.ChangeAt Go.RowKit
set_option linter.unusedVariables false
set_option linter.unusedSimpArgs false
set_option maxRecDepth 100000
def tlsM (n : Nat) (f : Nat → Int) (rva : Nat) (base : Int) : Option (Bool × Int × List Int) :=
  if rva = 0 then some (false, 0, []) else
  if n < rva + 40 then none else
  if (n : Int) < (rdF f (rva + 16) 8 - base) % 18446744073709551616 + 4 then none else
  match callsS n f base (rdF f (rva + 24) 8) with
  | none => none
  | some l => some (true, (rdF f (rva + 16) 8 - base) % 18446744073709551616, l)
def TlsQ (w : World) (R : Option (Bool × Int × List Int)) (e : Ending) (u : World) : Prop :=
  (∃ t x l L c, R = some (t, x, l) ∧ e = .returned (.tuple #[.agg #[.bool t, .int .i64 x, .slice L l.length c], .int .i64 0]) ∧ OwnT intC 1 u w.heap.size 3 (.slice L l.length c) l) ∨
  (R = none ∧ e = .returned (.tuple #[.agg #[.bool false, .int .i64 0, .slice none 0 0], .int .i64 12]))
set_option maxHeartbeats 2000000 in
theorem tls_gen (b off n cap : Nat) (f : Nat → Int) (rva : Nat) (sz base : Int) (w : World) (h : RowB w b off n cap f) (hn : n ≤ 1000000) (hr : rva ≤ 4294967296) (b0 : 0 ≤ base) (b1 : base ≤ 18446744073709551615) :
    Calls Tryz.prog 82 #[.slice (some ⟨b, off, none⟩) n cap, .agg #[.int .i64 rva, .int .i64 sz], .int .u64 base] w fun e u => TlsQ w (tlsM n f rva base) e u ∧ Below w.heap.size w u := by
  obtain ⟨R, hR⟩ : ∃ R, tlsM n f rva base = R := ⟨_, rfl⟩
  rw [hR]
  unfold tlsM at hR
  by_cases c0 : rva = 0
  · subst c0
    rw [if_pos rfl] at hR
    refine (tlsZ _ n cap sz base w).mono ?_
    rintro e u ⟨rfl, hb⟩
    exact ⟨.inl ⟨false, 0, [], none, 0, hR.symm, rfl, OwnT.nil _ _ _⟩, hb⟩
  rw [if_neg c0] at hR
  have e0 : ((rva : Int) == 0) = false := by rw [beq_eq_false_iff_ne]; omega
  have HRW := Lib.hid (fun W hW => (h.below hW : RowB W b off n cap f))
  have H255 := Lib.hid h.by255
  have HN := Lib.hid (And.intro hn (And.intro hr (And.intro b0 b1)))
  have HB0 := Lib.hid (((Below.refl w.heap.size w).alloc (Nat.le_refl _) (.cells #[.int .i64 rva, .int .i64 sz] 37)).alloc (by simp) (.cells #[.bool false, .int .i64 0, .slice none 0 0] 48))
  have HZ0 := Lib.hid (heap_alloc_new (w.alloc (.cells #[.int .i64 rva, .int .i64 sz] 37)) (.cells #[.bool false, .int .i64 0, .slice none 0 0] 48))
  have HZS := Lib.hid (show (w.alloc (.cells #[.int .i64 rva, .int .i64 sz] 37)).heap.size = w.heap.size + 1 by simp)
  rw [HZS.out] at HZ0
  have HD2 := Lib.hid ((own_two w (.int .i64 rva) (.int .i64 sz) 37).alloc (.cells #[.bool false, .int .i64 0, .slice none 0 0] 48))
  clear h c0
  by_cases c1 : n < rva + 40
  · rw [if_pos c1] at hR
    have HR := Lib.hid hR
    have HIN := Lib.hid (fun W : World => rowIn_any (some ⟨b, off, none⟩) n cap rva 40 false W (by omega) (by omega) (by omega) ⟨(fun h => by cases h), (fun h => by omega)⟩)
    clear hR hn hr b0 b1 c1
    go_enter Tryz.func82, Tryz.ntmps82
    go_wp2_with (first | (go_fit (HIN.out _); rintro e u ⟨rfl, rfl⟩) | (refine wpList_store_row rfl 48 _ _ rfl (w.heap.size + 1) #[.bool false, .int .i64 0, .slice none 0 0] rfl rfl 48 _ HZ0.out rfl rfl (by simp [Value.oneCell']) ?_))
    exact bodyPost_ret (v := .tuple #[.agg #[.bool false, .int .i64 0, .slice none 0 0], .int .i64 12]) (results_cell_tmp rfl _ _ (w.heap.size + 1) 48 _ (0, 0) _ _ rfl rfl (setRow_heap _ _ _ _ _ _ HZ0.out) rfl rfl rfl) rfl ⟨.inr ⟨HR.out.symm, rfl⟩, below_setRow HB0.out (by omega) _⟩
  rw [if_neg c1] at hR
  have HIN := Lib.hid (fun W : World => rowIn_any (some ⟨b, off, none⟩) n cap rva 40 true W (by omega) (by omega) (by omega) ⟨fun _ => ⟨by omega, by omega, by omega⟩, fun _ => rfl⟩)
  have HC1 := Lib.hid (show rva + 40 ≤ n by omega)
  have hv1 := rdF_bd f H255.out 8 (rva + 16)
  have hv2 := rdF_bd f H255.out 8 (rva + 24)
  obtain ⟨a1, ha1⟩ : ∃ a, rdF f (rva + 16) 8 = a := ⟨_, rfl⟩
  obtain ⟨a2, ha2⟩ : ∃ a, rdF f (rva + 24) 8 = a := ⟨_, rfl⟩
  have HU1 := Lib.hid (fun W (hW : Below w.heap.size w W) => u64_yes b off n cap f (rva + 16) W (by have := HC1.out; omega) (by have := HN.out.1; omega) H255.out (HRW.out W hW).row)
  have HU2 := Lib.hid (fun W (hW : Below w.heap.size w W) => u64_yes b off n cap f (rva + 24) W (by have := HC1.out; omega) (by have := HN.out.1; omega) H255.out (HRW.out W hW).row)
  rw [ha1] at HU1 hv1 hR
  rw [ha2] at HU2 hv2 hR
  rw [show ((rva + 16 : Nat) : Int) = (rva : Int) + 16 by omega] at HU1
  rw [show ((rva + 24 : Nat) : Int) = (rva : Int) + 24 by omega] at HU2
  have HA1 := Lib.hid ha1
  have HA2 := Lib.hid ha2
  obtain ⟨x, hx⟩ : ∃ x, (a1 - base) % 18446744073709551616 = x := ⟨_, rfl⟩
  rw [hx] at hR
  have q1 : IntKind.u64.wrap (a1 - base) = x := by rw [IntKind.wrap_u64]; exact hx
  have q2 : IntKind.i64.wrap ((rva : Int) + 16) = (rva : Int) + 16 := by rw [IntKind.wrap_i64]; omega
  have q3 : IntKind.i64.wrap ((rva : Int) + 24) = (rva : Int) + 24 := by rw [IntKind.wrap_i64]; omega
  have HX := Lib.hid (show 0 ≤ x ∧ x < 18446744073709551616 by omega)
  have HV2 := Lib.hid (show 0 ≤ a2 ∧ a2 < 18446744073709551616 from ⟨hv2.1, by simpa using hv2.2⟩)
  have t0 := HD2.out.cell (i := 0) (by omega)
  simp only [if_pos] at t0
  clear hx hv1 hv2 ha1 ha2 c1
  by_cases c2 : (n : Int) < x + 4
  · rw [if_pos c2] at hR
    have HR := Lib.hid hR
    have HP := Lib.hid (fun W : World => place_no (some ⟨b, off, none⟩) n cap x 4 W (by omega) HX.out.1 (by have := HX.out.2; omega) (by omega) (by omega) c2)
    clear hR hn hr b0 b1 c2
    go_enter Tryz.func82, Tryz.ntmps82
    go_wp2_with (first | (go_fit (HIN.out _); rintro e u ⟨rfl, rfl⟩))
    generalize (w.alloc (.cells #[.int .i64 rva, .int .i64 sz] 37)).alloc (.cells #[.bool false, .int .i64 0, .slice none 0 0] 48) = w2 at *
    refine (HU1.out _ HB0.out).mono ?_
    rintro e u ⟨rfl, rfl⟩
    go_wp2_with (first | (go_fit (HP.out _); rintro e u ⟨rfl, rfl⟩) | (refine wpList_store_row rfl 48 _ _ rfl (w.heap.size + 1) #[.bool false, .int .i64 0, .slice none 0 0] rfl rfl 48 _ HZ0.out rfl rfl (by simp [Value.oneCell']) ?_))
    exact bodyPost_ret (v := .tuple #[.agg #[.bool false, .int .i64 0, .slice none 0 0], .int .i64 12]) (results_cell_tmp rfl _ _ (w.heap.size + 1) 48 _ (0, 0) _ _ rfl rfl (setRow_heap _ _ _ _ _ _ HZ0.out) rfl rfl rfl) rfl ⟨.inr ⟨HR.out.symm, rfl⟩, below_setRow HB0.out (by omega) _⟩
  rw [if_neg c2] at hR
  have HP := Lib.hid (fun W : World => place_yes (some ⟨b, off, none⟩) n cap x 4 W (by omega) HX.out.1 (by omega) (by omega) (by omega))
  have HR := Lib.hid hR
  clear hR hn hr b0 b1 c2
  go_enter Tryz.func82, Tryz.ntmps82
  go_wp2_with (first | (go_fit (HIN.out _); rintro e u ⟨rfl, rfl⟩))
  generalize (w.alloc (.cells #[.int .i64 rva, .int .i64 sz] 37)).alloc (.cells #[.bool false, .int .i64 0, .slice none 0 0] 48) = w2 at *
  refine (HU1.out _ HB0.out).mono ?_
  rintro e u ⟨rfl, rfl⟩
  go_wp2_with (first | (go_fit (HP.out _); rintro e u ⟨rfl, rfl⟩))
  refine (HU2.out _ HB0.out).mono ?_
  rintro e u ⟨rfl, rfl⟩
  go_wp2_with fail
  refine (callbacks_gen b off n cap f base a2 w2 (HRW.out _ HB0.out) HN.out.1 HN.out.2.2.1 HN.out.2.2.2 HV2.out.1 (by have := HV2.out.2; omega) _ rfl).mono ?_
  rintro e w3 ⟨hq, hb3⟩
  have HZ3 := Lib.hid ((hb3.block _ (Array.getElem?_eq_some_iff.1 HZ0.out).1).trans HZ0.out)
  have HB3 := Lib.hid (HB0.out.trans (hb3.mono HB0.out.size))
  have HL3 := Lib.hid (Array.getElem?_eq_some_iff.1 HZ0.out).1
  clear t0 hb3
  rcases hq with ⟨l, L, c, hl, rfl, hown⟩ | ⟨hl, rfl⟩
  · have HO3 := Lib.hid hown
    rw [hl] at HR
    clear hown hl
    go_wp2_with (refine wpList_store_row rfl 48 _ _ rfl (w.heap.size + 1) #[.bool true, .int .i64 x, .slice L l.length c] rfl rfl 48 _ HZ3.out rfl rfl (by simp [Value.oneCell']) ?_)
    refine bodyPost_ret (v := .tuple #[.agg #[.bool true, .int .i64 x, .slice L l.length c], .int .i64 0]) (results_cell_tmp rfl _ _ (w.heap.size + 1) 48 _ (0, 0) _ _ rfl rfl (setRow_heap _ _ _ _ _ _ HZ3.out) rfl rfl rfl) rfl ⟨.inl ⟨true, x, l, L, c, HR.out.symm, rfl, ?_⟩, below_setRow HB3.out (by omega) _⟩
    have h1 := (HO3.out.of_block (w' := w3.setRow (w.heap.size + 1) #[.bool true, .int .i64 x, .slice L l.length c]) (fun k hk => setRow_other _ _ _ _ (by have := (HO3.out.lt k hk).1; have := HL3.out; omega)))
    exact h1.lower (by have := HB0.out.size; omega)
  · rw [hl] at HR
    go_wp2_with (refine wpList_store_row rfl 48 _ _ rfl (w.heap.size + 1) #[.bool false, .int .i64 0, .slice none 0 0] rfl rfl 48 _ HZ3.out rfl rfl (by simp [Value.oneCell']) ?_)
    exact bodyPost_ret (v := .tuple #[.agg #[.bool false, .int .i64 0, .slice none 0 0], .int .i64 12]) (results_cell_tmp rfl _ _ (w.heap.size + 1) 48 _ (0, 0) _ _ rfl rfl (setRow_heap _ _ _ _ _ _ HZ3.out) rfl rfl rfl) rfl ⟨.inr ⟨HR.out.symm, rfl⟩, below_setRow HB3.out (by omega) _⟩
end Go.Proofs.YtplgdpjbkdagfaaGreat
