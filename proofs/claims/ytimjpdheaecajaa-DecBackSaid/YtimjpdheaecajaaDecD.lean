/- package dec: a code read. -/
import Derived.Test.YtimjpdheaecajaaDecC
import Derived.Deep.QuietTactic
import Derived.BigQuiet
namespace Go.Proofs.Ytimjpdheaecajaa
open Go.ChangeShapes Go.WideShapes Go.ChangeAt Go.RowKit
set_option linter.unusedVariables false

theorem Own.in_grown {w w' : World} {B n : Nat} {f : Nat → Value} {row : Option Nat} (h : Own w B n f) (hb : w.grownBy w' row) (hg : some B ≠ row) : Own w' B n f := h.grown hb hg

theorem code_nil (g o B : Nat) (F : Form) (x : InsV) (A : Option Addr) (cap : Nat) (w : World) :
    Calls Try.prog 20 #[.pointer (some ⟨g, o, none⟩), .slice A 0 cap, .pointer (some ⟨B, 0, none⟩)] w fun e w' =>
      e = .returned (.tuple #[.int .i64 0, .int .i64 1]) ∧ w = w' := by
  go_enter Try.func20, Try.ntmps20
  go_wp2
  go_ret2
  exact ⟨rfl, rfl⟩

theorem below_of_grown {w w' : World} (h : w.grownBy w' none) : Below w.heap.size w w' := ⟨h.os, h.tape, h.output, h.size, fun i hi => h.block i hi (by simp)⟩
theorem InsAt.none {w w' : World} {B : Nat} {x : InsV} (h : InsAt w B x) (hb : w.grownBy w' none) : InsAt w' B x := Own.grown h hb (by simp)

/-- The register stands in the code. -/
theorem code_in_no (g o B c : Nat) (F : Form) (x : InsV) (bb off n cap : Nat) (w : World) (hf : FormAt w g o F) (hn : 0 < n) (hn' : n ≤ 9223372036854775807) (hlt : bb < w.heap.size) (hv : w.cell? ⟨bb, off, none⟩ = some (.int .u8 c)) (hc : c ≤ 255) (hr : F.regs = 1) (hne : ¬ c &&& 248 = F.code) :
    Calls Try.prog 20 #[.pointer (some ⟨g, o, none⟩), .slice (some ⟨bb, off, none⟩) n cap, .pointer (some ⟨B, 0, none⟩)] w fun e w' =>
      e = .returned (.tuple #[.int .i64 0, .int .i64 0]) ∧ w.grownBy w' none := by
  have h1 : ((n : Int) == 0) = false := by simpa using (by omega : ¬ n = 0)
  have hltg := hf.lt
  have c4 := hf.c4
  have c5 := hf.c5
  rw [hr] at c5
  have e1 : bits .andNot .u8 (c : Int) 7 = ((c &&& 248 : Nat) : Int) := u8_andNot_nat c 7 (by omega) (by omega)
  obtain ⟨y, hy⟩ : ∃ u, c &&& 248 = u := ⟨_, rfl⟩
  rw [hy] at e1 hne
  have d : ((y : Int) != (F.code : Int)) = true := nat_bne_true hne
  have d' : ((y : Int) == (F.code : Int)) = false := nat_beq_false hne
  clear hf hne hy hr
  go_enter Try.func20, Try.ntmps20
  go_wp2
  go_region
  go_wp2
  go_ret2
  exact ⟨rfl, only_drew (World.grownBy.refl _ _)⟩

theorem code_in_yes (g o B c : Nat) (F : Form) (x : InsV) (bb off n cap : Nat) (w : World) (hf : FormAt w g o F) (hn : 0 < n) (hn' : n ≤ 9223372036854775807) (hlt : bb < w.heap.size) (hv : w.cell? ⟨bb, off, none⟩ = some (.int .u8 c)) (hc : c ≤ 255) (hr : F.regs = 1) (hne : c &&& 248 = F.code) (hx : InsAt w B x) (xa : x.a ≤ 8) :
    Calls Try.prog 20 #[.pointer (some ⟨g, o, none⟩), .slice (some ⟨bb, off, none⟩) n cap, .pointer (some ⟨B, 0, none⟩)] w fun e w' =>
      e = .returned (.tuple #[.int .i64 1, .int .i64 2]) ∧ w.grownBy w' (some B) ∧ InsAt w' B { x with a := x.a + (c &&& 7) } := by
  have h1 : ((n : Int) == 0) = false := by simpa using (by omega : ¬ n = 0)
  have hltg := hf.lt
  have c4 := hf.c4
  have c5 := hf.c5
  rw [hr] at c5
  have e1 : bits .andNot .u8 (c : Int) 7 = ((c &&& 248 : Nat) : Int) := u8_andNot_nat c 7 (by omega) (by omega)
  obtain ⟨y, hy⟩ : ∃ u, c &&& 248 = u := ⟨_, rfl⟩
  rw [hy] at e1 hne
  have d : ((y : Int) != (F.code : Int)) = false := by rw [hne]; simp
  have d' : ((y : Int) == (F.code : Int)) = true := nat_beq_true hne
  have m0 : bits .and .u8 (c : Int) 7 = ((c &&& 7 : Nat) : Int) := u8_and_nat c 7 (by omega) (by omega)
  have kB0 : c &&& 7 ≤ 7 := Nat.and_le_right
  obtain ⟨j, hj⟩ : ∃ u, c &&& 7 = u := ⟨_, rfl⟩
  rw [hj] at m0 kB0 ⊢
  have hB := hx.1
  have x1 : w.cell? ⟨B, 1, none⟩ = some (.int .i64 x.a) := hx.cell (i := 1) (by omega)
  have f1 := hx.frozen (i := 1) (by omega)
  have HX := Lib.hid hx
  clear hf hy hr hx hj
  go_enter Try.func20, Try.ntmps20
  go_wp2
  go_region
  go_wp2
  go_region
  go_wp2
  go_ret2
  exact ⟨rfl, only_drew (only_drew (set_grown w B 1 _)), (InsAt.a HX.out (x.a + j) : InsAt _ B _)⟩

/-- It does not. -/
theorem code_not (g o B c : Nat) (F : Form) (x : InsV) (bb off n cap : Nat) (w : World) (hf : FormAt w g o F) (hn : 0 < n) (hn' : n ≤ 9223372036854775807) (hlt : bb < w.heap.size) (hv : w.cell? ⟨bb, off, none⟩ = some (.int .u8 c)) (hc : c ≤ 255) (hr : ¬ F.regs = 1) (hne : ¬ c = F.code) :
    Calls Try.prog 20 #[.pointer (some ⟨g, o, none⟩), .slice (some ⟨bb, off, none⟩) n cap, .pointer (some ⟨B, 0, none⟩)] w fun e w' =>
      e = .returned (.tuple #[.int .i64 0, .int .i64 0]) ∧ w.grownBy w' none := by
  have h1 : ((n : Int) == 0) = false := by simpa using (by omega : ¬ n = 0)
  have hltg := hf.lt
  have c4 := hf.c4
  have c5 := hf.c5
  have r1 : ((F.regs : Int) == 1) = false := nat_beq_false (b := 1) hr
  have d : ((c : Int) != (F.code : Int)) = true := nat_bne_true hne
  have d' : ((c : Int) == (F.code : Int)) = false := nat_beq_false hne
  clear hf hne hr
  go_enter Try.func20, Try.ntmps20
  go_wp2
  go_region
  go_wp2
  go_ret2
  exact ⟨rfl, only_drew (World.grownBy.refl _ _)⟩

theorem code_one (g o B c : Nat) (F : Form) (x : InsV) (bb off n cap : Nat) (w : World) (hf : FormAt w g o F) (hn : 0 < n) (hn' : n ≤ 9223372036854775807) (hlt : bb < w.heap.size) (hv : w.cell? ⟨bb, off, none⟩ = some (.int .u8 c)) (hc : c ≤ 255) (hr : F.regs = 0) (hne : c = F.code) :
    Calls Try.prog 20 #[.pointer (some ⟨g, o, none⟩), .slice (some ⟨bb, off, none⟩) n cap, .pointer (some ⟨B, 0, none⟩)] w fun e w' =>
      e = .returned (.tuple #[.int .i64 1, .int .i64 2]) ∧ w.grownBy w' none := by
  have h1 : ((n : Int) == 0) = false := by simpa using (by omega : ¬ n = 0)
  have hltg := hf.lt
  have c4 := hf.c4
  have c5 := hf.c5
  rw [hr] at c5
  rw [← hne] at c4
  clear hf hne hr
  go_enter Try.func20, Try.ntmps20
  go_wp2
  go_region
  go_wp2
  go_ret2
  exact ⟨rfl, only_drew (World.grownBy.refl _ _)⟩

theorem code_short (g o B c : Nat) (F : Form) (x : InsV) (bb off n cap : Nat) (w : World) (hf : FormAt w g o F) (hn : n = 1) (hlt : bb < w.heap.size) (hv : w.cell? ⟨bb, off, none⟩ = some (.int .u8 c)) (hc : c ≤ 255) (hr : ¬ F.regs = 1) (hr0 : ¬ F.regs = 0) (hne : c = F.code) :
    Calls Try.prog 20 #[.pointer (some ⟨g, o, none⟩), .slice (some ⟨bb, off, none⟩) n cap, .pointer (some ⟨B, 0, none⟩)] w fun e w' =>
      e = .returned (.tuple #[.int .i64 0, .int .i64 1]) ∧ w.grownBy w' none := by
  subst hn
  have hltg := hf.lt
  have c4 := hf.c4
  have c5 := hf.c5
  have r1 : ((F.regs : Int) == 1) = false := nat_beq_false (b := 1) hr
  have r0 : ((F.regs : Int) == 0) = false := nat_beq_false (b := 0) hr0
  rw [← hne] at c4
  clear hf hne hr
  go_enter Try.func20, Try.ntmps20
  go_wp2
  go_region
  go_wp2
  go_ret2
  exact ⟨rfl, only_drew (World.grownBy.refl _ _)⟩

theorem code_regs (g o B c : Nat) (F : Form) (x : InsV) (bb off n cap : Nat) (w : World) (hf : FormAt w g o F) (hn : 1 < n) (hn' : n ≤ 9223372036854775807) (hlt : bb < w.heap.size) (hv : w.cell? ⟨bb, off, none⟩ = some (.int .u8 c)) (hc : c ≤ 255) (v : Nat) (hv1 : w.cell? ⟨bb, off + 1, none⟩ = some (.int .u8 v)) (hv255 : v ≤ 255) (hr : ¬ F.regs = 1) (hr0 : ¬ F.regs = 0) (hne : c = F.code) (hF : F.Ok) (hg : g ≠ B) (hx : InsAt w B x) (xa : x.a ≤ 8) (xb : x.b ≤ 8) :
    Calls Try.prog 20 #[.pointer (some ⟨g, o, none⟩), .slice (some ⟨bb, off, none⟩) n cap, .pointer (some ⟨B, 0, none⟩)] w fun e w' =>
      e = .returned (.tuple #[.int .i64 (if (regsRead F v x.a x.b).1 then 2 else 0), .int .i64 (if (regsRead F v x.a x.b).1 then 2 else 0)]) ∧ w.grownBy w' (some B) ∧ InsAt w' B { x with a := (regsRead F v x.a x.b).2.1, b := (regsRead F v x.a x.b).2.2 } := by
  have h1 : ((n : Int) == 0) = false := by simpa using (by omega : ¬ n = 0)
  have hltg := hf.lt
  have c4 := hf.c4
  have c5 := hf.c5
  have h2 : ((n : Int) == 1) = false := beq_eq_false_iff_ne.mpr (by omega)
  have r1 : ((F.regs : Int) == 1) = false := nat_beq_false (b := 1) hr
  have r0 : ((F.regs : Int) == 0) = false := nat_beq_false (b := 0) hr0
  have hR := regs_any g o B v F x w.drew hF (hf.of_block rfl (Nat.le_refl _)) hv255 hg hx xa xb
  rw [← hne] at c4
  clear hf hne hr hx
  generalize (regsRead F v x.a x.b).1 = T at hR ⊢
  have HR := Lib.hid hR
  clear hR
  cases T
  all_goals
    go_enter Try.func20, Try.ntmps20
    go_wp2
    go_region
    go_wp2_with fail
    refine (HR.out).mono ?_
    rintro e u ⟨rfl, hu, hi⟩
    have HU := Lib.hid hu
    have HI := Lib.hid hi
    clear hu hi
    go_wp2
    go_ret2
    exact ⟨rfl, ⟨HU.out.os, HU.out.tape, HU.out.output, HU.out.size, HU.out.block⟩, HI.out⟩

theorem code_any (g o B : Nat) (F : Form) (x : InsV) (bs : List Nat) (A : Option Addr) (cap : Nat) (w : World) (hF : F.Ok) (hf : FormAt w g o F) (hb : Bn bs) (hl : bs.length ≤ 9223372036854775807)
    (hs : SlB w A bs.length (bF bs)) (hg : g ≠ B) (hx : InsAt w B x) (xa : x.a ≤ 8) (xb : x.b ≤ 8) :
    Calls Try.prog 20 #[.pointer (some ⟨g, o, none⟩), .slice A bs.length cap, .pointer (some ⟨B, 0, none⟩)] w fun e w' =>
      e = .returned (.tuple #[.int .i64 (codeRead F x.a x.b bs).n, .int .i64 (codeRead F x.a x.b bs).fit]) ∧ w.grownBy w' (some B) ∧ InsAt w' B { x with a := (codeRead F x.a x.b bs).a, b := (codeRead F x.a x.b bs).b } := by
  match bs, hb, hl, hs with
  | [], hb, hl, hs =>
    refine (code_nil g o B F x A cap w).mono ?_
    rintro e w' ⟨rfl, rfl⟩
    exact ⟨rfl, World.grownBy.refl _ _, hx⟩
  | c :: r, hb, hl, hs =>
    have hc : c ≤ 255 := hb c (by simp)
    obtain ⟨bb, off, rfl, hlt, hrow⟩ : ∃ b off, A = some ⟨b, off, none⟩ ∧ b < w.heap.size ∧ Row w b off (c :: r).length (bF (c :: r)) := by
      rcases hs with h | h
      · simp at h
      · exact h
    have hcell : w.cell? ⟨bb, off, none⟩ = some (.int .u8 c) := hrow 0 (by simp)
    have hn : 0 < (c :: r).length := by simp
    by_cases hr : F.regs = 1
    · by_cases hne : c &&& 248 = F.code
      · have e : codeRead F x.a x.b (c :: r) = ⟨1, 2, x.a + (c &&& 7), x.b⟩ := by simp only [codeRead]; rw [if_pos hr, if_neg (fun h => h hne)]
        rw [e]
        exact code_in_yes g o B c F x bb off _ cap w hf hn hl hlt hcell hc hr hne hx xa
      · have e : codeRead F x.a x.b (c :: r) = ⟨0, 0, x.a, x.b⟩ := by simp only [codeRead]; rw [if_pos hr, if_pos hne]
        rw [e]
        refine (code_in_no g o B c F x bb off _ cap w hf hn hl hlt hcell hc hr hne).mono ?_
        rintro e w' ⟨rfl, hw⟩
        exact ⟨rfl, grown_of_below (below_of_grown hw), hx.none hw⟩
    · by_cases hne : c = F.code
      · by_cases hr0 : F.regs = 0
        · have e : codeRead F x.a x.b (c :: r) = ⟨1, 2, x.a, x.b⟩ := by simp only [codeRead]; rw [if_neg hr, if_neg (fun h => h hne), if_pos hr0]
          rw [e]
          refine (code_one g o B c F x bb off _ cap w hf hn hl hlt hcell hc hr0 hne).mono ?_
          rintro e w' ⟨rfl, hw⟩
          exact ⟨rfl, grown_of_below (below_of_grown hw), hx.none hw⟩
        · match r, hb, hl, hrow with
          | [], hb, hl, hrow =>
            have e : codeRead F x.a x.b [c] = ⟨0, 1, x.a, x.b⟩ := by simp only [codeRead]; rw [if_neg hr, if_neg (fun h => h hne), if_neg hr0]
            rw [e]
            refine (code_short g o B c F x bb off _ cap w hf (by simp) hlt hcell hc hr hr0 hne).mono ?_
            rintro e w' ⟨rfl, hw⟩
            exact ⟨rfl, grown_of_below (below_of_grown hw), hx.none hw⟩
          | v :: r, hb, hl, hrow =>
            have hv : v ≤ 255 := hb v (by simp)
            have e : codeRead F x.a x.b (c :: v :: r) = if (regsRead F v x.a x.b).1 then ⟨2, 2, (regsRead F v x.a x.b).2.1, (regsRead F v x.a x.b).2.2⟩ else ⟨0, 0, (regsRead F v x.a x.b).2.1, (regsRead F v x.a x.b).2.2⟩ := by
              simp only [codeRead]; rw [if_neg hr, if_neg (fun h => h hne), if_neg hr0]
            rw [e]
            refine (code_regs g o B c F x bb off _ cap w hf (by simp) hl hlt hcell hc v (hrow 1 (by simp)) hv hr hr0 hne hF hg hx xa xb).mono ?_
            rintro e w' ⟨rfl, hw, hi⟩
            refine ⟨?_, hw, ?_⟩
            · cases (regsRead F v x.a x.b).1 <;> rfl
            · cases h : (regsRead F v x.a x.b).1 <;> simpa [h] using hi
      · have e : codeRead F x.a x.b (c :: r) = ⟨0, 0, x.a, x.b⟩ := by simp only [codeRead]; rw [if_neg hr, if_pos hne]
        rw [e]
        refine (code_not g o B c F x bb off _ cap w hf hn hl hlt hcell hc hr hne).mono ?_
        rintro e w' ⟨rfl, hw⟩
        exact ⟨rfl, grown_of_below (below_of_grown hw), hx.none hw⟩
end Go.Proofs.Ytimjpdheaecajaa
