/- Memory of pages (package vmem): what it is; what is asked of it. -/
import Derived.Test.YtlifaldbdjcgjaaPage
import Derived.Deep.QuietTactic
import Derived.BigQuiet
namespace Go.Proofs.Ytlifaldbdjcgjaa
open Go.ChangeShapes Go.WideShapes Go.ChangeAt Go.RowKit
open Go.Maps (Keyed)
set_option linter.unusedVariables false
set_option linter.unusedSimpArgs false

theorem zeroPtrV (w : World) : (zeroValue 66).run Try.prog w = .ok (.pointer none) w := by kernel_rfl

/-- A page: its protection and its bytes. -/
structure Pg where
  prot : Int
  dat : Nat → Int

/-- The cells of a page's block. -/
def pgF (g : Pg) (j : Nat) : Value := if j = 0 then .int .i64 g.prot else .int .u8 (g.dat (j - 1))

/-- Memory at M: m pages; the page at address a lies in block f a, and is mp a. -/
structure MemIn (w : World) (M bm m : Nat) (most : Int) (f : Int → Option Nat) (mp : Int → Option Pg) : Prop where
  c0 : w.cell? ⟨M, 0, none⟩ = some (.int .i64 most)
  c1 : w.cell? ⟨M, 1, none⟩ = some (.map (some bm))
  mlt : M < w.heap.size
  map : PM w Try.prog 25 .u64 bm m f
  both : ∀ a, (f a).isSome = (mp a).isSome
  page : ∀ a B g, f a = some B → mp a = some g → Own w B 4097 (pgF g)
  inj : ∀ a a' B, f a = some B → f a' = some B → a = a'
  nos : ∀ a B, f a = some B → B ≠ M
  low : 0 ≤ most
  high : most ≤ 1024
  fits : (m : Int) ≤ most

def MemAt (R : Nat → Prop) (w : World) (M m : Nat) (most : Int) (mp : Int → Option Pg) : Prop :=
  ∃ bm f, MemIn w M bm m most f mp ∧ ¬ R M ∧ ¬ R bm ∧ (∀ a B, f a = some B → ¬ R B) ∧ ∀ k, R k → k < w.heap.size

theorem MemIn.drewN {w : World} {M bm m : Nat} {most : Int} {f : Int → Option Nat} {mp : Int → Option Pg} (h : MemIn w M bm m most f mp) (n : Nat) : MemIn (w.drewN n) M bm m most f mp :=
  ⟨h.c0, h.c1, h.mlt, h.map, h.both, h.page, h.inj, h.nos, h.low, h.high, h.fits⟩
theorem MemAt.drewN {R : Nat → Prop} {w : World} {M m : Nat} {most : Int} {mp : Int → Option Pg} (h : MemAt R w M m most mp) (n : Nat) : MemAt R (w.drewN n) M m most mp := by
  obtain ⟨bm, f, S, r⟩ := h
  exact ⟨bm, f, S.drewN n, r⟩

theorem pageOf_any (a : Int) (w : World) (h0 : 0 ≤ a) (h1 : a < 18446744073709551616) : Calls Try.prog 47 #[.int .u64 a] w fun e w' => e = .returned (.int .u64 (a - a % 4096)) ∧ w = w' := by
  have h2 : 0 ≤ a - a % 4096 := by omega
  go_enter Try.func47, Try.ntmps47
  go_wp2
  go_ret
  exact ⟨rfl, rfl⟩

theorem pageOf_q (a : Int) (w : World) (h0 : 0 ≤ a) (h1 : a < 18446744073709551616) : Calls Try.prog 47 #[.int .u64 a] w fun e w' => e = .returned (.int .u64 (a - a % 4096)) ∧ w' = w :=
  (pageOf_any a w h0 h1).mono fun _ _ ⟨h, h'⟩ => ⟨h, h'.symm⟩

theorem protOk_yes (p : Int) (w : World) (h0 : 0 ≤ p) (h1 : p ≤ 15) : Calls Try.prog 35 #[.int .i64 p] w fun e w' => e = .returned (.bool true) ∧ w = w' := by
  go_enter Try.func35, Try.ntmps35
  go_wp2
  go_ret
  exact ⟨rfl, rfl⟩

theorem newMem_any (R : Nat → Prop) (w : World) (n : Int) (hR : ∀ k, R k → k < w.heap.size) (h0 : 0 ≤ n) (h1 : n ≤ 1024) : Calls Try.prog 12 #[.int .i64 n] w fun e w' => ∃ M, e = .returned (.pointer (some ⟨M, 0, none⟩)) ∧ MemAt R w' M 0 n (fun _ => none) ∧ Kept R w w' := by
  have hmm := @run_makeMap Try.prog
  go_enter Try.func12, Try.ntmps12
  go_wp2
  go_ret
  refine ⟨w.heap.size + 1, rfl, ⟨w.heap.size, fun _ => none, ⟨by simp [go_sem], by simp [go_sem], by simp, (PM.made w _ _ _).kept (World.grownBy_alloc _ _ none) (by simp), fun _ => rfl, fun _ _ _ h => by (cases h), fun _ _ _ h => by (cases h), fun _ _ h => by (cases h), h0, h1, by simpa using h0⟩, fun h => by (have := hR _ h; omega), fun h => by (have := hR _ h; omega), fun _ _ h => by (cases h), fun k h => by (have := hR _ h; simp; omega)⟩, ((Kept.refl R w).alloc hR _).alloc hR _⟩

theorem PM.lookupN {w : World} {bm m : Nat} {f : Int → Option Nat} (h : PM w Try.prog 25 .u64 bm m f) (x : Int) (hx : (Lit.int .u64 x).wf = true) (n : Nat) :
    (Instr.lookup 63 (.map (some bm)) (.int .u64 x) false).run Try.prog (w.drewN n) = .ok (ptrV (f x)) (w.drewN n) :=
  PM.lookup (w := w.drewN n) (e := 66) h Try.underlying25 Try.underlying63 zeroPtrV x hx

theorem wf_page {a : Int} (h0 : 0 ≤ a) (h1 : a < 18446744073709551616) : (Lit.int .u64 (a - a % 4096)).wf = true := by
  simp [Lit.wf, IntKind.min, IntKind.max, IntKind.bits, IntKind.signed]
  omega

theorem prot_no (R : Nat → Prop) (w : World) (M m : Nat) (most : Int) (mp : Int → Option Pg) (a : Int) (h0 : 0 ≤ a) (h1 : a < 18446744073709551616) (H : MemAt R w M m most mp) (hg : mp (a - a % 4096) = none) :
    Calls Try.prog 33 #[.pointer (some ⟨M, 0, none⟩), .int .u64 a] w fun e w' => e = .returned (.tuple #[.int .i64 0, .bool false]) ∧ ∃ n, w' = w.drewN n := by
  obtain ⟨bm, f, S, _⟩ := H
  have k0 := S.c1
  have hl := fun n => S.map.lookupN (a - a % 4096) (wf_page h0 h1) n
  have hb := S.both (a - a % 4096)
  rw [hg] at hb
  cases hf : f (a - a % 4096) with
  | some B => rw [hf] at hb; cases hb
  | none =>
    rw [hf] at hl
    simp only [ptrV] at hl
    clear hb hf hg
    go_enter Try.func33, Try.ntmps33
    go_wp2_with fail
    go_quiet ((go_at_call 47; exact Calls.quiet_of_same (pageOf_q _ _ h0 h1)))
    go_wp2
    go_ret2
    exact ⟨rfl, nq, rfl⟩

theorem prot_yes (R : Nat → Prop) (w : World) (M m : Nat) (most : Int) (mp : Int → Option Pg) (a : Int) (g : Pg) (h0 : 0 ≤ a) (h1 : a < 18446744073709551616) (H : MemAt R w M m most mp) (hg : mp (a - a % 4096) = some g) :
    Calls Try.prog 33 #[.pointer (some ⟨M, 0, none⟩), .int .u64 a] w fun e w' => e = .returned (.tuple #[.int .i64 g.prot, .bool true]) ∧ ∃ n, w' = w.drewN n := by
  obtain ⟨bm, f, S, _⟩ := H
  have k0 := S.c1
  have hl := fun n => S.map.lookupN (a - a % 4096) (wf_page h0 h1) n
  have hb := S.both (a - a % 4096)
  rw [hg] at hb
  cases hf : f (a - a % 4096) with
  | none => rw [hf] at hb; cases hb
  | some B =>
    have hc := (S.page _ B g hf hg).cell (i := 0) (by omega)
    simp only [pgF, if_pos rfl] at hc
    rw [hf] at hl
    simp only [ptrV] at hl
    clear hb hf hg
    go_enter Try.func33, Try.ntmps33
    go_wp2_with fail
    go_quiet ((go_at_call 47; exact Calls.quiet_of_same (pageOf_q _ _ h0 h1)))
    go_wp2
    go_ret2
    exact ⟨rfl, nq, rfl⟩

theorem free_any (R : Nat → Prop) (w : World) (M m : Nat) (most : Int) (mp : Int → Option Pg) (H : MemAt R w M m most mp) :
    Calls Try.prog 22 #[.pointer (some ⟨M, 0, none⟩)] w fun e w' => e = .returned (.int .i64 (most - m)) ∧ ∃ n, w' = w.drewN n := by
  obtain ⟨bm, f, S, _⟩ := H
  have k0 := S.c0
  have k1 := S.c1
  have l0 := S.low
  have l1 := S.high
  have l2 := S.fits
  have hl : ∀ n ty, (Builtin.len_ #[63] ty #[.map (some bm)]).run Try.prog (w.drewN n) = .ok (.int .i64 m) (w.drewN n) := fun n ty => PM.len (w := w.drewN n) S.map Try.underlying63 ty
  go_enter Try.func22, Try.ntmps22
  go_wp2_with fail
  go_quiet (fail)
  go_wp2
  go_ret
  exact ⟨rfl, nq, rfl⟩
end Go.Proofs.Ytlifaldbdjcgjaa
