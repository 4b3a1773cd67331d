/- package gates: tell: the law's own closure says. -/
import Derived.Test.YtijggmioknneoaaTell
import Derived.Test.YtijggmioknneoaaOwnL
namespace Go.Proofs.Ytijggmioknneoaa
open Go.ChangeShapes Go.WideShapes Go.ChangeAt Go.RowKit
set_option linter.unusedVariables false
set_option linter.unusedSimpArgs false

theorem infoU64T : (Try.prog.info? 30).map (fun i => (i.zero, i.size, i.bytes)) = some (some (.int .u64 0), 1, 8) := by kernel_rfl

theorem cell_ltT {w : World} {b o : Nat} {v : Value} (h : w.cell? ⟨b, o, none⟩ = some v) : b < w.heap.size := by
  rcases Nat.lt_or_ge b w.heap.size with hlt | hge
  · exact hlt
  · simp [World.cell?, Array.getElem?_eq_none hge] at h

/-- The closure appends: the row that lies at P is one number long. -/
theorem say1_any (x : Int) (w : World) (P : Nat) (hc : w.cell? ⟨P, 0, none⟩ = some (.slice none 0 0)) (hz : w.frozen? ⟨P, 0, none⟩ = false) :
    Calls Try.prog 15 #[.int .u64 x, .pointer (some ⟨P, 0, none⟩)] w fun e w' => e = .returned (.tuple #[]) ∧ ∃ w1 g cap, Below w.heap.size w w1 ∧ w' = w1.setCell ⟨P, 0, none⟩ (.slice (some ⟨g, 0, none⟩) 1 cap) ∧ w.heap.size ≤ g ∧ g < w1.heap.size ∧ w1.cell? ⟨g, 0, none⟩ = some (.int .u64 x) := by
  have hP := cell_ltT hc
  go_enter Try.func15, Try.ntmps15
  go_wp2_with (at_builtin; refine wpList_appL rfl _ _ 39 39 rfl w.heap.size 30 (.int .u64 0) 8 Try.underlying39 infoU64T rfl (.slice none 0 0) [] rfl ((OwnL.nil w w.heap.size _).alloc _) _ rfl [.int .u64 x] (src_one Try.underlying39 rfl (by simp [go_sem]) _) (by simp [maxLen]) (by simp) (by simp) ?_; intro A2 cap2 w2 hown2 hg2 hat2; have kP := (hg2.block P (by simp; omega) (by simp [Value.ownBlock])).trans (Below.heap_alloc w (.cells #[.int .u64 x] 30) P hP); have cP2 := (World.cell?_of_block (a := ⟨P, 0, none⟩) kP).trans hc; have zP2 := (World.frozen?_of_block (a := ⟨P, 0, none⟩) kP).trans hz; have HW2 := Lib.hid hown2; have HG2 := Lib.hid hg2; clear hown2 hg2 hat2 kP)
  obtain ⟨g, hA, hgb, hog⟩ := Own.of_own (f := fun _ => Value.int .u64 x) HW2.out (by simp) (fun i hi => by
    obtain rfl : i = 0 := by simpa using hi
    rfl)
  subst hA
  have hbb : Below w.heap.size w w2 := ⟨HG2.out.os, HG2.out.tape, HG2.out.output, Nat.le_trans (by simp) HG2.out.size, fun k hk => (HG2.out.block k (by simp; omega) (by simp [Value.ownBlock])).trans (Below.heap_alloc w _ k hk)⟩
  go_end0
  exact ⟨rfl, w2, g, _, hbb, rfl, hgb, hog.1, hog.cell (i := 0) (by simp)⟩

theorem tell_say (x : Int) (w : World) (P : Nat) (hc : w.cell? ⟨P, 0, none⟩ = some (.slice none 0 0)) (hz : w.frozen? ⟨P, 0, none⟩ = false) :
    Calls Try.prog 18 #[.func (.func 15) #[] #[.pointer (some ⟨P, 0, none⟩)], .int .u64 x] w fun e w' => e = .returned (.bool true) ∧ ∃ g cap, w.heap.size ≤ g ∧ w'.cell? ⟨P, 0, none⟩ = some (.slice (some ⟨g, 0, none⟩) 1 cap) ∧ w'.cell? ⟨g, 0, none⟩ = some (.int .u64 x) ∧ w.grownBy w' (some P) := by
  have hmf : ∀ (fn : Fn) (first cap : Array Value) (w : World), (Instr.makeFunc fn first cap).run Try.prog w = .ok (.func fn first cap) w := fun _ _ _ _ => rfl
  have hq := neq_func (.func 15) #[] #[.pointer (some ⟨P, 0, none⟩)]
  have hP := cell_ltT hc
  have HS := Lib.hid (say1_any x (w.alloc (.cells #[.bool false] 4)) P (by rw [← hc]; exact World.cell?_of_block (Below.heap_alloc w _ P hP)) (by rw [← hz]; exact World.frozen?_of_block (Below.heap_alloc w _ P hP)))
  go_enter_defers Try.func18, Try.ntmps18
  go_wp2_with fail
  refine HS.out.mono ?_
  rintro e w2 ⟨rfl, w1, g, cap, hb, rfl, hg0, hg1, hgx⟩
  have hg2 : w.heap.size < g := by have := hg0; simp at this; omega
  have cR : (w1.setCell ⟨P, 0, none⟩ (.slice (some ⟨g, 0, none⟩) 1 cap)).cell? ⟨w.heap.size, 0, none⟩ = some (.bool false) := by
    rw [World.cell?_setCell_other w1 _ _ _ (fun e' => by injection e' with e' _; omega)]
    exact (World.cell?_of_block (a := ⟨w.heap.size, 0, none⟩) (hb.block _ (by simp))).trans (by simp [go_sem])
  have zR : (w1.setCell ⟨P, 0, none⟩ (.slice (some ⟨g, 0, none⟩) 1 cap)).frozen? ⟨w.heap.size, 0, none⟩ = false := by
    rw [World.frozen?_setCell]
    exact (World.frozen?_of_block (a := ⟨w.heap.size, 0, none⟩) (hb.block _ (by simp))).trans (by simp [go_sem])
  have cP1 : w1.cell? ⟨P, 0, none⟩ = some (.slice none 0 0) := (World.cell?_of_block (a := ⟨P, 0, none⟩) ((hb.block P (by simp; omega)).trans (Below.heap_alloc w _ P hP))).trans hc
  have CP1 := Lib.hid cP1
  have HB := Lib.hid hb
  have HGX := Lib.hid (And.intro hg2 (And.intro hg1 hgx))
  clear hb hgx hg0 hg1 cP1 HS
  go_wp2
  refine leaves_cons (f := 20) (args := #[.pointer (some ⟨w.heap.size, 0, none⟩)]) (by simp) (by simp [go_sem]) ?_
  refine (tell1_idle ⟨w.heap.size, 0, none⟩ _).mono ?_
  rintro e u' w'' ⟨rfl, rfl, rfl⟩
  obtain ⟨h1, h2, h3⟩ := HGX.out
  have hres : ((w1.setCell ⟨P, 0, none⟩ (.slice (some ⟨g, 0, none⟩) 1 cap)).setCell ⟨w.heap.size, 0, none⟩ (.bool true)).cell? ⟨w.heap.size, 0, none⟩ = some (.bool true) := World.cell?_setCell_same _ _ _ cR
  have hp3 : ((w1.setCell ⟨P, 0, none⟩ (.slice (some ⟨g, 0, none⟩) 1 cap)).setCell ⟨w.heap.size, 0, none⟩ (.bool true)).cell? ⟨P, 0, none⟩ = some (.slice (some ⟨g, 0, none⟩) 1 cap) := by
    rw [World.cell?_setCell_other _ _ _ _ (fun e' => by injection e' with e' _; omega)]
    exact World.cell?_setCell_same _ _ _ CP1.out
  have hg3 : ((w1.setCell ⟨P, 0, none⟩ (.slice (some ⟨g, 0, none⟩) 1 cap)).setCell ⟨w.heap.size, 0, none⟩ (.bool true)).cell? ⟨g, 0, none⟩ = some (.int .u64 x) := by
    rw [World.cell?_setCell_other _ _ _ _ (fun e' => by injection e' with e' _; omega), World.cell?_setCell_other _ _ _ _ (fun e' => by injection e' with e' _; omega)]
    exact h3
  have hb4 : w.grownBy ((w1.setCell ⟨P, 0, none⟩ (.slice (some ⟨g, 0, none⟩) 1 cap)).setCell ⟨w.heap.size, 0, none⟩ (.bool true)) (some P) :=
    only_setCell (only_setCell (only_below (only_alloc (World.grownBy.refl w (some P)) _) HB.out) (Or.inl rfl) _) (Or.inr (Nat.le_refl _)) _
  clear cR zR
  generalize (w1.setCell ⟨P, 0, none⟩ (.slice (some ⟨g, 0, none⟩) 1 cap)).setCell ⟨w.heap.size, 0, none⟩ (.bool true) = w4 at *
  simp [Leaves, settle, results, Try.results18, go_sem, hres]
  exact ⟨g, by omega, ⟨cap, hp3⟩, hg3, hb4⟩
end Go.Proofs.Ytijggmioknneoaa
