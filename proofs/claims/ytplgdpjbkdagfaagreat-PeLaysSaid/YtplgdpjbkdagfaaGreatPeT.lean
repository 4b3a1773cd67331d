import Derived.Test.YtplgdpjbkdagfaaGreatTlsA
import Derived.Test.YtplgdpjbkdagfaaGreatZHdrD
import Derived.Test.YtplgdpjbkdagfaaGreatZRegK
namespace Go.Proofs.YtplgdpjbkdagfaaGreat
open Go.ChangeShapes Go.WideShapes Go.ChangeAt Go.RowKit
set_option linter.unusedVariables false
set_option linter.unusedSimpArgs false
set_option maxRecDepth 100000
theorem OwnT.lower {α : Type} {C : α → List Value} {sz : Nat} {w : World} {base base' : Nat} {e : TypeId} {v : Value} {l : List α} (h : OwnT C sz w base e v l) (hb : base' ≤ base) : OwnT C sz w base' e v l := by
  refine ⟨h.1, ?_⟩
  rcases h.2 with h2 | ⟨g, cap, cur, h1, hb2, rest⟩
  · exact .inl h2
  · exact .inr ⟨g, cap, cur, h1, Nat.le_trans hb hb2, rest⟩
def tcAt (base addr : Int) (i : Nat) : Nat := ((addr - base + 8 * i) % 18446744073709551616).toNat
def callsM (n : Nat) (f : Nat → Int) (base addr : Int) : Nat → List Int → Option (List Int)
  | 0, _ => none
  | m + 1, l =>
    if n < tcAt base addr l.length + 8 then none else
    if rdF f (tcAt base addr l.length) 8 = 0 then some l else
    if (n : Int) < (rdF f (tcAt base addr l.length) 8 - base) % 18446744073709551616 + 1 ∨ l.length = 8 then none else
    callsM n f base addr m (l ++ [(rdF f (tcAt base addr l.length) 8 - base) % 18446744073709551616])
def callsS (n : Nat) (f : Nat → Int) (base addr : Int) : Option (List Int) := if addr = 0 then some [] else callsM n f base addr 9 []
set_option maxHeartbeats 2000000 in
theorem callbacks_gen (b off n cap : Nat) (f : Nat → Int) (base addr : Int) (w : World) (h : RowB w b off n cap f) (hn : n ≤ 1000000) (b0 : 0 ≤ base) (b1 : base ≤ 18446744073709551615) (a0 : 0 ≤ addr) (a1 : addr ≤ 18446744073709551615) (R : Option (List Int)) (hR : callsS n f base addr = R) :
    Calls Tryz.prog 117 #[.slice (some ⟨b, off, none⟩) n cap, .int .u64 addr, .int .u64 base] w fun e w' =>
      ((∃ l L c, R = some l ∧ e = .returned (.tuple #[.slice L l.length c, .bool true]) ∧ OwnT intC 1 w' w.heap.size 3 (.slice L l.length c) l) ∨ (R = none ∧ e = .returned (.tuple #[.slice none 0 0, .bool false]))) ∧ Below w.heap.size w w' := by
  have HR := Lib.hid h
  have HN := Lib.hid (And.intro hn (And.intro (And.intro b0 b1) (And.intro a0 a1)))
  clear h
  by_cases ha : addr = 0
  · subst ha
    have HE := Lib.hid (show some [] = R from by rw [← hR]; unfold callsS; rw [if_pos rfl])
    clear hR hn b0 b1 a0 a1
    go_enter Tryz.func117, Tryz.ntmps117
    go_wp2_with fail
    go_ret2
    exact ⟨.inl ⟨[], none, 0, HE.out.symm, rfl, OwnT.nil _ _ _⟩, Below.refl _ _⟩
  · have e0 : (addr == 0) = false := by rw [beq_eq_false_iff_ne]; exact ha
    unfold callsS at hR
    rw [if_neg ha] at hR
    have HE := Lib.hid hR
    clear hR hn b0 b1 a0 a1 ha
    go_enter Tryz.func117, Tryz.ntmps117
    go_wp2_with fail
    have HO0 := Lib.hid (OwnT.made (C := intC) (sz := 1) w w.heap.size (Nat.le_refl _) 3)
    have HB0 := Lib.hid ((Below.refl w.heap.size w).alloc (Nat.le_refl _) (.cells #[] 3))
    generalize w.alloc (.cells #[] 3) = w1 at HO0 HB0 ⊢
    go_loopw [8] (fun v8 wr => ∃ (l : List Int) (L : Option Addr) (c : Nat), l.length ≤ 8 ∧ v8 = .slice L l.length c ∧ callsM n f base addr (9 - l.length) l = R ∧ OwnT intC 1 wr w.heap.size 3 (.slice L l.length c) l ∧ Below w.heap.size w wr) (fun v8 _ => 9 - lenOf v8)
    case atStart => exact ⟨[], _, 0, by simp, rfl, HE.out, HO0.out, HB0.out⟩
    case round =>
      obtain ⟨l, L, c, hl, rfl, hm, hown, hbw⟩ := hrel
      obtain ⟨i, hi⟩ : ∃ i, l.length = i := ⟨_, rfl⟩
      rw [hi] at hown hm hl ⊢
      obtain ⟨m, hm9⟩ : ∃ m, 9 - i = m + 1 := ⟨8 - i, by omega⟩
      rw [hm9] at hm
      unfold callsM at hm
      rw [hi] at hm
      have HOWN := Lib.hid hown
      have HBW := Lib.hid hbw
      have HL2 := Lib.hid hi
      have HI8 := Lib.hid (And.intro hl hm9)
      have HRW := Lib.hid (HR.out.below HBW.out)
      have hT : tcAt base addr i = ((addr - base + 8 * i) % 18446744073709551616).toNat := rfl
      have hTb : ((tcAt base addr i : Nat) : Int) = (addr - base + 8 * i) % 18446744073709551616 := by rw [hT]; omega
      generalize tcAt base addr i = T at hm hTb
      have hnn := HN.out.1
      have w1 : IntKind.u64.wrap (i : Int) = i := by rw [IntKind.wrap_u64]; omega
      have w2 : IntKind.u64.wrap ((i : Int) * 8) = (i : Int) * 8 := by rw [IntKind.wrap_u64]; omega
      have w3 : IntKind.u64.wrap (IntKind.u64.wrap (addr - base) + (i : Int) * 8) = T := by rw [IntKind.wrap_u64, IntKind.wrap_u64]; omega
      have HTB := Lib.hid (show T < 18446744073709551616 by omega)
      clear hown hbw HO0 HB0 hi hl hm9 hT hTb HE
      by_cases c1 : n < T + 8
      · rw [if_pos c1] at hm
        have HP := Lib.hid (fun W : World => place_no (some ⟨b, off, none⟩) n cap T 8 W (by omega) (by omega) (by have := HTB.out; omega) (by omega) (by omega) (by omega))
        have HM := Lib.hid hm
        clear c1 hm
        go_wp2_with (first | (go_fit (HP.out _); rintro e u ⟨rfl, rfl⟩))
        go_ret2
        exact ⟨.inr ⟨HM.out.symm, rfl⟩, HBW.out⟩
      · rw [if_neg c1] at hm
        have HP := Lib.hid (fun W : World => place_yes (some ⟨b, off, none⟩) n cap T 8 W (by omega) (by omega) (by omega) (by omega) (by omega))
        have hu := u64_yes b off n cap f T wr (by omega) (by omega) HR.out.by255 HRW.out.row
        have hv8 := rdF_bd f HR.out.by255 8 T
        obtain ⟨v, hv⟩ : ∃ v, rdF f T 8 = v := ⟨_, rfl⟩
        rw [hv] at hm hu hv8
        have HU := Lib.hid hu
        have HV8 := Lib.hid (show 0 ≤ v ∧ v < 18446744073709551616 from ⟨hv8.1, by simpa using hv8.2⟩)
        clear hu hv8 hv c1
        by_cases c2 : v = 0
        · rw [if_pos c2] at hm
          have HM := Lib.hid hm
          subst c2
          clear hm
          go_wp2_with (first
            | (go_fit (HP.out _); rintro e u ⟨rfl, rfl⟩)
            | (go_fit HU.out; rintro e u ⟨rfl, rfl⟩))
          go_ret2
          exact ⟨.inl ⟨l, L, c, HM.out.symm, by rw [HL2.out]; rfl, by rw [HL2.out]; exact HOWN.out⟩, HBW.out⟩
        · rw [if_neg c2] at hm
          have e2 : (v == 0) = false := by rw [beq_eq_false_iff_ne]; exact c2
          obtain ⟨z, hz⟩ : ∃ z, (v - base) % 18446744073709551616 = z := ⟨_, rfl⟩
          rw [hz] at hm
          have hzb : 0 ≤ z ∧ z < 18446744073709551616 := by omega
          have w4 : IntKind.u64.wrap (v - base) = z := by rw [IntKind.wrap_u64]; exact hz
          have HZB := Lib.hid hzb
          clear hz hzb c2
          by_cases c3 : (n : Int) < z + 1
          · rw [if_pos (.inl c3)] at hm
            have HV := Lib.hid (fun W : World => place_no (some ⟨b, off, none⟩) n cap z 1 W (by omega) HZB.out.1 (by have := HZB.out.2; omega) (by omega) (by omega) c3)
            have HM := Lib.hid hm
            clear hm c3
            go_wp2_with (first
              | (go_fit (HP.out _); rintro e u ⟨rfl, rfl⟩)
              | (go_fit HU.out; rintro e u ⟨rfl, rfl⟩)
              | (go_fit (HV.out _); rintro e u ⟨rfl, rfl⟩))
            go_ret2
            exact ⟨.inr ⟨HM.out.symm, rfl⟩, HBW.out⟩
          · have HV := Lib.hid (fun W : World => place_yes (some ⟨b, off, none⟩) n cap z 1 W (by omega) HZB.out.1 (by omega) (by omega) (by omega))
            by_cases c4 : i = 8
            · rw [if_pos (.inr c4)] at hm
              have HM := Lib.hid hm
              have q7 : ((i : Int) == 8) = true := by rw [beq_iff_eq]; omega
              clear hm c3 c4
              go_wp2_with (first
                | (go_fit (HP.out _); rintro e u ⟨rfl, rfl⟩)
                | (go_fit HU.out; rintro e u ⟨rfl, rfl⟩)
                | (go_fit (HV.out _); rintro e u ⟨rfl, rfl⟩))
              go_ret2
              exact ⟨.inr ⟨HM.out.symm, rfl⟩, HBW.out⟩
            · rw [if_neg (by omega)] at hm
              have HM := Lib.hid hm
              have q7 : ((i : Int) == 8) = false := by rw [beq_eq_false_iff_ne]; omega
              have HI9 := Lib.hid (show i < 8 by have := HI8.out.1; omega)
              have hlz : (l ++ [z]).length = i + 1 := by rw [List.length_append, HL2.out]; rfl
              have HLN := Lib.hid (show (l ++ [z]).length ≤ 8 ∧ True from ⟨by rw [hlz]; have := HI9.out; omega, trivial⟩)
              have HM9 := Lib.hid (show callsM n f base addr (9 - (l ++ [z]).length) (l ++ [z]) = R from by
                have h9 := HI8.out.2
                rw [hlz, show 9 - (i + 1) = m by omega]
                exact HM.out)
              clear hlz
              have HO3 := Lib.hid (heap_alloc_new wr (.cells #[.int .i64 z] 3))
              have HOW2 := Lib.hid (HOWN.out.alloc (.cells #[.int .i64 z] 3))
              have HS1 := Lib.hid (show (wr.alloc (.cells #[.int .i64 z] 3)).heap.size = wr.heap.size + 1 by simp)
              have HCA := Lib.hid (show ∀ j u, (intC z)[j]? = some u → (wr.alloc (.cells #[.int .i64 z] 3)).cell? ⟨wr.heap.size, j, none⟩ = some u from fun j u hu => by
                rw [cell_of_row _ _ _ _ _ _ HO3.out]
                rcases j with _ | j
                · simpa [intC] using hu
                · simp [intC] at hu)
              clear hm c3 c4
              go_wp2_with (first
                | (go_fit (HP.out _); rintro e u ⟨rfl, rfl⟩)
                | (go_fit HU.out; rintro e u ⟨rfl, rfl⟩)
                | (go_fit (HV.out _); rintro e u ⟨rfl, rfl⟩)
                | (at_builtin; refine wpList_appT rfl (.tmp 56) (.tmp 58) 22 rfl w.heap.size 3 (.int .i64 0) 8 (by kernel_rfl) infoInt rfl (by omega) intC_len intC_one (.slice L i c) l rfl HOW2.out wr.heap.size 1 rfl z HCA.out (by have := HL2.out; have := HI9.out; unfold maxLen; omega) (by have := HL2.out; have := HI9.out; omega) (by have := HS1.out; have := HBW.out.size; omega) ?_; intro g' cap2 w3 hown3 hg3 hat3))
              have HB3 := Lib.hid (HOW2.out.grew (HBW.out.alloc HBW.out.size (.cells #[.int .i64 z] 3)) (Nat.le_refl _) (by have := HBW.out.size; have := HS1.out; omega) hg3)
              go_roundw
              case rel => exact ⟨l ++ [z], some ⟨g', 0, none⟩, cap2, HLN.out.1, by rw [List.length_append, HL2.out]; rfl, HM9.out, by rw [List.length_append, HL2.out]; rw [HL2.out] at hown3; exact hown3, HB3.out⟩
              case measure => have := HI9.out; have := HL2.out; simp only [lenOf]; omega
end Go.Proofs.YtplgdpjbkdagfaaGreat
