/- What the document fixes of what was bound ahead. -/
import Derived.Test.YtbghgjhenahcgaaBndG
namespace Go.Proofs.Ytbghgjhenahcgaa
open Go.ChangeShapes Go.WideShapes Go.ChangeAt Go.RowKit
set_option linter.unusedVariables false

theorem parse_ok {bs : List Nat} {rva : Nat} {l : List BRow} (hp : parseL bs rva 33 rva 0 [] = some l) (w : World) (base g c : Nat) (h : OwnD w base g c bs) (h1 : 1 ≤ rva) (h2 : rva ≤ 1073741824) :
    Calls Try.prog 6 #[.slice (some ⟨g, 0, none⟩) bs.length c, .agg #[.int .i64 rva, .int .i64 0]] w fun e w' =>
      ∃ A cap, e = .returned (.tuple #[.slice A l.length cap, .int .i64 0]) ∧ OwnT bC 2 w' w.heap.size 25 (.slice A l.length cap) l ∧ Below w.heap.size w w' := by
  refine (parse_any (some ⟨g, 0, none⟩) c bs rva 0 w h.lb h.len h.most h.slB h1 h2).mono ?_
  rintro e w' ⟨he, hw⟩
  rw [hp] at he
  obtain ⟨A, cap, e1, ho⟩ := he
  exact ⟨A, cap, e1, ho, hw⟩
theorem parse_bad {bs : List Nat} {rva : Nat} (hp : parseL bs rva 33 rva 0 [] = none) (w : World) (base g c : Nat) (h : OwnD w base g c bs) (h1 : 1 ≤ rva) (h2 : rva ≤ 1073741824) :
    Calls Try.prog 6 #[.slice (some ⟨g, 0, none⟩) bs.length c, .agg #[.int .i64 rva, .int .i64 0]] w fun e w' =>
      e = .returned (.tuple #[.slice none 0 0, .int .i64 8]) ∧ Below w.heap.size w w' := by
  refine (parse_any (some ⟨g, 0, none⟩) c bs rva 0 w h.lb h.len h.most h.slB h1 h2).mono ?_
  rintro e w' ⟨he, hw⟩
  rw [hp] at he
  exact ⟨he, hw⟩
theorem parse_nil (w : World) :
    Calls Try.prog 6 #[.slice none 0 0, .agg #[.int .i64 1, .int .i64 0]] w fun e w' =>
      e = .returned (.tuple #[.slice none 0 0, .int .i64 8]) ∧ Below w.heap.size w w' := by
  refine (parse_any none 0 [] 1 0 w (fun v hv => by simp at hv) (Nat.le_refl _) (by omega) (.inl rfl) (by omega) (by omega)).mono ?_
  rintro e w' ⟨he, hw⟩
  rw [show parseL [] 1 33 1 0 [] = none from by decide +kernel] at he
  exact ⟨he, hw⟩

theorem slT_one (w : World) (t : List Nat) (v : Nat) : SlT bC 2 (w.alloc (.cells #[.string (txt t), .int .i64 v] 25)) (some ⟨w.heap.size, 0, none⟩) [(t, v)] :=
  .inr ⟨w.heap.size, 0, rfl, by simp, fun i hi j u hu => by
    have hi' : i = 0 := by simp at hi; omega
    subst hi'
    simpa using boundCells t v w j u hu⟩
theorem fslT_one (w : World) (t : List Nat) (v : Int) : SlT fC 2 (w.alloc (.cells #[.string (txt t), .int .i64 v] 38)) (some ⟨w.heap.size, 0, none⟩) [(t, v)] :=
  .inr ⟨w.heap.size, 0, rfl, by simp, fun i hi j u hu => by
    have hi' : i = 0 := by simp at hi; omega
    subst hi'
    rcases j with _ | _ | j
    · simp [fC] at hu; subst hu; simp [go_sem]
    · simp [fC] at hu; subst hu; simp [go_sem]
    · simp [fC] at hu⟩

/-- Rows as rows with whole numbers. -/
def toF (l : List BRow) : List FRow := l.map fun x => (x.1, (x.2 : Int))
theorem toF_len (l : List BRow) : (toF l).length = l.length := by simp [toF]
theorem toF_get (l : List BRow) (i : Nat) (h : i < (toF l).length) : (toF l)[i] = ((l[i]'(by rwa [toF_len] at h)).1, ((l[i]'(by rwa [toF_len] at h)).2 : Int)) := by simp [toF]
theorem SlT.toF {w : World} {A : Option Addr} {l : List BRow} (h : SlT bC 2 w A l) : SlT fC 2 w A (toF l) := by
  rcases h with h | ⟨b, off, rfl, hlt, hc⟩
  · exact .inl (by rw [h]; rfl)
  · refine .inr ⟨b, off, rfl, hlt, fun i hi j v hv => ?_⟩
    rw [toF_get l i hi] at hv
    exact hc i (by rwa [toF_len] at hi) j v hv

def img9 : List Nat := atL [] [([97], 5)] 0 (List.replicate 32 0)
theorem img9_len : img9.length = 34 := by decide +kernel
theorem img9_parse : parseL img9 16 33 16 0 [] = some [([97], 5)] := by decide +kernel
theorem txt_a : txt [97] = ⟨#[97]⟩ := by decide +kernel
theorem txt_adll : txt [65, 46, 68, 76, 76] = ⟨#[65, 46, 68, 76, 76]⟩ := by decide +kernel
theorem fresh_a : freshM (toF [([97], 5)]) [([65, 46, 68, 76, 76], 5)] = true := by decide +kernel
theorem fresh_0 : freshM (toF [([97], 5)]) [] = false := by decide +kernel

theorem made_any (l : List BRow) (A : Option Addr) (cap : Nat) (ms : List Nat) (M : Option Addr) (mcap : Nat) (w : World) (hl : SlT bC 2 w A l) (h36 : l.length ≤ 36) (hx : ∀ x ∈ l, RowOkB x) (hm : Nums w M ms) (hms : ∀ v ∈ ms, v ≤ 3) (hml : ms.length ≤ 100)
    (res : List Nat) (hres : atL ms (l.take 34) 0 (List.replicate (24 + 8 * min l.length 34) 0) = res) :
    Calls Try.prog 7 #[.slice A l.length cap, .slice M ms.length mcap] w fun e w' => ∃ g c, e = .returned (.slice (some ⟨g, 0, none⟩) res.length c) ∧ OwnD w' w.heap.size g c res ∧ Below w.heap.size w w' := by
  have H := Lib.hid (at_any l A cap ms M mcap w hl h36 hx hm hms hml res hres)
  clear hl hx hm hms hml hres
  go_enter Try.func7, Try.ntmps7
  go_wp2_with fail
  refine H.out.mono ?_
  rintro e w' ⟨g, c, rfl, ho, hw⟩
  go_wp2_with fail
  go_ret
  exact ⟨g, c, rfl, ho, hw⟩

theorem at_one (W : World) : Calls Try.prog 7 #[.slice (some ⟨W.heap.size, 0, none⟩) 1 1, .slice none 0 0] (W.alloc (.cells #[.string ⟨#[97]⟩, .int .i64 5] 25)) fun e w' =>
    ∃ base g c, e = .returned (.slice (some ⟨g, 0, none⟩) 34 c) ∧ OwnD w' base g c img9 ∧ Below W.heap.size W w' := by
  have h := made_any [([97], 5)] (some ⟨W.heap.size, 0, none⟩) 1 [] none 0 (W.alloc (.cells #[.string (txt [97]), .int .i64 (5 : Nat)] 25)) (slT_one W [97] 5) (by simp) (fun x hx => by
    simp at hx; subst hx; exact ⟨fun v hv => by simp at hv; omega, by simp, by simp⟩) (.inl rfl) (by simp) (by simp) img9 rfl
  rw [txt_a] at h
  refine h.mono ?_
  rintro e w' ⟨g, c, rfl, ho, hw⟩
  exact ⟨_, g, c, by rw [img9_len], ho, ((Below.refl _ _).alloc (Nat.le_refl _) _).trans (hw.mono (by simp))⟩

set_option maxRecDepth 100000 in
set_option maxHeartbeats 1000000 in
theorem awake9_any (w : World) : Calls Try.prog 9 #[] w fun e w' => e = .returned (.bool true) ∧ Below w.heap.size w w' := by
  have HAT := Lib.hid (fun W => at_one W)
  have HNIL := Lib.hid (fun W => parse_nil W)
  go_enter Try.func9, Try.ntmps9
  go_wp2_with fail
  refine (HAT.out _).mono ?_
  rintro e w1 ⟨base, g, c, rfl, ho, hw1⟩
  have HB := Lib.hid hw1
  have HP := Lib.hid (show Calls Try.prog 6 #[.slice (some ⟨g, 0, none⟩) 34 c, .agg #[.int .i64 16, .int .i64 0]] w1 fun e w' =>
      ∃ A cap, e = .returned (.tuple #[.slice A 1 cap, .int .i64 0]) ∧ OwnT bC 2 w' w1.heap.size 25 (.slice A 1 cap) [([97], 5)] ∧ Below w1.heap.size w1 w' from by
    have h := parse_ok img9_parse w1 base g c ho (by omega) (by omega)
    rw [img9_len] at h
    exact h)
  clear hw1 ho
  go_wp2_with fail
  refine HP.out.mono ?_
  rintro e w2 ⟨A, cap, rfl, ho, hw2⟩
  replace HB := Lib.hid (HB.out.trans (hw2.mono HB.out.size))
  have HO := Lib.hid ho
  clear hw2 ho HP
  go_wp2_with fail
  refine (HNIL.out _).mono ?_
  rintro e w3 ⟨rfl, hw3⟩
  replace HB := Lib.hid (HB.out.trans (hw3.mono HB.out.size))
  replace HO := Lib.hid (HO.out.below hw3)
  clear hw3
  have hsl := HO.out.sl bC_len
  obtain ⟨bl, off, rfl, hbl, q0, q1⟩ := hsl.row (i := 0) (by simp)
  simp only [List.getElem_cons_zero, Nat.zero_mul, Nat.add_zero] at q0 q1
  rw [txt_a] at q0
  have HSL := Lib.hid hsl.toF
  have HF1 := Lib.hid (fun W (hW : Below w3.heap.size w3 W) => fresh_any (toF [([97], 5)]) [([65, 46, 68, 76, 76], 5)] (some ⟨bl, off, none⟩) (some ⟨W.heap.size, 0, none⟩) cap 1 (W.alloc (.cells #[.string (txt [65, 46, 68, 76, 76]), .int .i64 5] 38)) ((HSL.out.below hW).below ((Below.refl _ _).alloc (Nat.le_refl _) _)) (fslT_one W [65, 46, 68, 76, 76] 5)
    (fun y hy => by simp [toF] at hy; subst hy; exact ⟨fun v hv => by simp at hv; omega, by simp⟩) (fun y hy => by simp at hy; subst hy; exact ⟨fun v hv => by simp at hv; omega, by simp⟩) (by simp [toF]) (by simp))
  have HF2 := Lib.hid (fun W (hW : Below w3.heap.size w3 W) => fresh_any (toF [([97], 5)]) [] (some ⟨bl, off, none⟩) none cap 0 W (HSL.out.below hW) (.inl rfl)
    (fun y hy => by simp [toF] at hy; subst hy; exact ⟨fun v hv => by simp at hv; omega, by simp⟩) (fun y hy => by simp at hy) (by simp [toF]) (by simp))
  rw [txt_adll, fresh_a] at HF1
  rw [fresh_0] at HF2
  clear hsl
  go_wp2_with fail
  refine (HF1.out w3 (Below.refl _ _)).mono ?_
  rintro e w4 ⟨rfl, hw4⟩
  have hw5 := ((Below.refl w3.heap.size w3).alloc (Nat.le_refl _) _).trans (hw4.mono (by simp))
  have HB5 := Lib.hid hw5
  replace HB := Lib.hid (HB.out.trans (hw5.mono HB.out.size))
  clear hw4 hw5
  go_wp2_with fail
  refine (HF2.out w4 HB5.out).mono ?_
  rintro e w6 ⟨rfl, hw6⟩
  replace HB := Lib.hid (HB.out.trans (hw6.mono HB.out.size))
  clear hw6
  go_wp2_with fail
  go_ret
  exact ⟨rfl, HB.out⟩
end Go.Proofs.Ytbghgjhenahcgaa
