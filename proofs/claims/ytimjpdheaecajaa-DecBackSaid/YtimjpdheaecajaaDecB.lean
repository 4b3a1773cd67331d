/- package dec: how a prefix is read. -/
import Derived.Test.YtimjpdheaecajaaDecA
import Derived.Test.YtimjpdheaecajaaKeep
namespace Go.Proofs.Ytimjpdheaecajaa
open Go.ChangeShapes Go.WideShapes Go.ChangeAt Go.RowKit
set_option linter.unusedVariables false

/-- An instruction's seven numbers. -/
def insF (x : InsV) : Nat → Value
  | 0 => .int .i64 x.op
  | 1 => .int .i64 x.a
  | 2 => .int .i64 x.b
  | 3 => .int .i64 x.alu
  | 4 => .int .i64 x.cc
  | 5 => .int .u64 x.imm
  | _ => .int .i64 x.disp

def InsAt (w : World) (B : Nat) (x : InsV) : Prop := Own w B 7 (insF x)

/-- The bytes of a list, as the walk reads them. -/
def bF (bs : List Nat) (i : Nat) : Int := ((bs.getD i 0 : Nat) : Int)
theorem bF_cons (v : Nat) (r : List Nat) : bF (v :: r) 0 = v := rfl
theorem bF_drop (bs : List Nat) (k i : Nat) : bF (bs.drop k) i = bF bs (k + i) := by simp [bF, List.getD]

def Bn (bs : List Nat) : Prop := ∀ v ∈ bs, v ≤ 255
theorem Bn.drop {bs : List Nat} (h : Bn bs) (k : Nat) : Bn (bs.drop k) := fun v hv => h v (List.mem_of_mem_drop hv)
theorem Bn.bF {bs : List Nat} (h : Bn bs) : Bytes255 (bF bs) := by
  intro i
  unfold Go.Proofs.Ytimjpdheaecajaa.bF
  rcases Nat.lt_or_ge i bs.length with hi | hi
  · have := h bs[i] (List.getElem_mem hi)
    simp [List.getD, List.getElem?_eq_getElem hi]; omega
  · simp [List.getD, List.getElem?_eq_none hi]

theorem InsAt.a {w : World} {B : Nat} {x : InsV} (h : InsAt w B x) (n : Nat) : InsAt (w.setCell ⟨B, 1, none⟩ (.int .i64 n)) B { x with a := n } :=
  (Own.set h (i := 1) (by omega) _).congr fun i hi => by
    rcases (by omega : i = 0 ∨ i = 1 ∨ i = 2 ∨ i = 3 ∨ i = 4 ∨ i = 5 ∨ i = 6) with rfl | rfl | rfl | rfl | rfl | rfl | rfl <;> rfl
theorem InsAt.b {w : World} {B : Nat} {x : InsV} (h : InsAt w B x) (n : Nat) : InsAt (w.setCell ⟨B, 2, none⟩ (.int .i64 n)) B { x with b := n } :=
  (Own.set h (i := 2) (by omega) _).congr fun i hi => by
    rcases (by omega : i = 0 ∨ i = 1 ∨ i = 2 ∨ i = 3 ∨ i = 4 ∨ i = 5 ∨ i = 6) with rfl | rfl | rfl | rfl | rfl | rfl | rfl <;> rfl
theorem InsAt.imm {w : World} {B : Nat} {x : InsV} (h : InsAt w B x) (n : Nat) : InsAt (w.setCell ⟨B, 5, none⟩ (.int .u64 n)) B { x with imm := n } :=
  (Own.set h (i := 5) (by omega) _).congr fun i hi => by
    rcases (by omega : i = 0 ∨ i = 1 ∨ i = 2 ∨ i = 3 ∨ i = 4 ∨ i = 5 ∨ i = 6) with rfl | rfl | rfl | rfl | rfl | rfl | rfl <;> rfl
theorem InsAt.disp {w : World} {B : Nat} {x : InsV} (h : InsAt w B x) (n : Int) : InsAt (w.setCell ⟨B, 6, none⟩ (.int .i64 n)) B { x with disp := n } :=
  (Own.set h (i := 6) (by omega) _).congr fun i hi => by
    rcases (by omega : i = 0 ∨ i = 1 ∨ i = 2 ∨ i = 3 ∨ i = 4 ∨ i = 5 ∨ i = 6) with rfl | rfl | rfl | rfl | rfl | rfl | rfl <;> rfl

theorem InsAt.new {w : World} {B : Nat} {x : InsV} (h : InsAt w B x) (o : Obj) : InsAt (w.alloc o) B x := Own.alloc h o
theorem InsAt.ab {w : World} {B : Nat} {x : InsV} (h : InsAt w B x) : InsAt ((w.setCell ⟨B, 1, none⟩ (.int .i64 8)).setCell ⟨B, 2, none⟩ (.int .i64 8)) B { x with a := 8, b := 8 } := InsAt.b (InsAt.a h 8) 8
theorem InsAt.a8 {w : World} {B : Nat} {x : InsV} (h : InsAt w B { x with a := 0, b := 0 }) : InsAt (w.setCell ⟨B, 1, none⟩ (.int .i64 8)) B { x with a := 8, b := 0 } := InsAt.a h 8
theorem InsAt.b8 {w : World} {B : Nat} {x : InsV} (h : InsAt w B { x with a := 0, b := 0 }) : InsAt (w.setCell ⟨B, 2, none⟩ (.int .i64 8)) B { x with a := 0, b := 8 } := InsAt.b h 8
theorem set_grown (w : World) (B i : Nat) (v : Value) : w.grownBy (w.setCell ⟨B, i, none⟩ v) (some B) := only_setCell (World.grownBy.refl _ _) (.inl rfl) _
theorem set_set_grown (w : World) (B i j : Nat) (u v : Value) : w.grownBy ((w.setCell ⟨B, i, none⟩ u).setCell ⟨B, j, none⟩ v) (some B) := only_setCell (set_grown w B i u) (.inl rfl) _

def preV (ba a b : Nat) (s : Bool) : Value := .agg #[.int .u8 ba, .int .u8 a, .int .u8 b, .bool s]

theorem pr_zero (a b : Nat) (s : Bool) (A : Option Addr) (n cap B : Nat) (w : World) :
    Calls Try.prog 19 #[.agg #[.int .u8 0, .int .u8 a, .int .u8 b, .bool s], .slice A n cap, .pointer (some ⟨B, 0, none⟩)] w fun e w' =>
      e = .returned (.tuple #[.int .i64 0, .int .i64 2]) ∧ Below w.heap.size w w' := by
  go_enter Try.func19, Try.ntmps19
  go_wp2
  go_ret2
  exact ⟨rfl, by go_grown⟩

theorem pr_nil (ba a b : Nat) (s : Bool) (A : Option Addr) (cap B : Nat) (w : World) (h0 : ((ba : Int) == 0) = false) :
    Calls Try.prog 19 #[.agg #[.int .u8 ba, .int .u8 a, .int .u8 b, .bool s], .slice A 0 cap, .pointer (some ⟨B, 0, none⟩)] w fun e w' =>
      e = .returned (.tuple #[.int .i64 0, .int .i64 1]) ∧ Below w.heap.size w w' := by
  go_enter Try.func19, Try.ntmps19
  go_wp2
  go_ret2
  exact ⟨rfl, by go_grown⟩

theorem pr_not (ba a b v : Nat) (m : Int) (s : Bool) (bb off n cap B : Nat) (w : World) (h0 : ((ba : Int) == 0) = false) (hn : 0 < n) (hn' : n ≤ 9223372036854775807) (hlt : bb < w.heap.size) (hv : w.cell? ⟨bb, off, none⟩ = some (.int .u8 v))
    (hm : bits .andNot .u8 (v : Int) (bits .or .u8 (a : Int) (b : Int)) = m) (hc : (m == (ba : Int)) = false) (hc' : (m != (ba : Int)) = true) :
    Calls Try.prog 19 #[.agg #[.int .u8 ba, .int .u8 a, .int .u8 b, .bool s], .slice (some ⟨bb, off, none⟩) n cap, .pointer (some ⟨B, 0, none⟩)] w fun e w' =>
      e = .returned (.tuple #[.int .i64 0, .int .i64 (if s = true then 2 else 0)]) ∧ Below w.heap.size w w' := by
  have h1 : ((n : Int) == 0) = false := by simpa using (by omega : ¬ n = 0)
  cases s
  all_goals
    go_enter Try.func19, Try.ntmps19
    go_wp2
    go_ret2
    exact ⟨rfl, by go_grown⟩

theorem pr_left (ba a b v : Nat) (bb off n cap B : Nat) (w : World) (h0 : ((ba : Int) == 0) = false) (hn : 0 < n) (hn' : n ≤ 9223372036854775807) (hlt : bb < w.heap.size) (hv : w.cell? ⟨bb, off, none⟩ = some (.int .u8 v))
    (hm : bits .andNot .u8 (v : Int) (bits .or .u8 (a : Int) (b : Int)) = (ba : Int)) (hc : v = ba) :
    Calls Try.prog 19 #[.agg #[.int .u8 ba, .int .u8 a, .int .u8 b, .bool true], .slice (some ⟨bb, off, none⟩) n cap, .pointer (some ⟨B, 0, none⟩)] w fun e w' =>
      e = .returned (.tuple #[.int .i64 0, .int .i64 2]) ∧ Below w.heap.size w w' := by
  have h1 : ((n : Int) == 0) = false := by simpa using (by omega : ¬ n = 0)
  subst hc
  go_enter Try.func19, Try.ntmps19
  go_wp2
  go_ret2
  exact ⟨rfl, by go_grown⟩

set_option maxHeartbeats 1000000 in
theorem pr_yes (ba a b v : Nat) (s qa qb : Bool) (x : InsV) (bb off n cap B : Nat) (w : World) (h0 : ((ba : Int) == 0) = false) (hn : 0 < n) (hn' : n ≤ 9223372036854775807) (hlt : bb < w.heap.size) (hv : w.cell? ⟨bb, off, none⟩ = some (.int .u8 v))
    (hm : bits .andNot .u8 (v : Int) (bits .or .u8 (a : Int) (b : Int)) = (ba : Int)) (hc : s = true → ((v : Int) == (ba : Int)) = false)
    (ha : (bits .and .u8 (v : Int) (a : Int) != 0) = qa) (hb : (bits .and .u8 (v : Int) (b : Int) != 0) = qb) (hx : InsAt w B x) (xa : x.a = 0) (xb : x.b = 0) :
    Calls Try.prog 19 #[.agg #[.int .u8 ba, .int .u8 a, .int .u8 b, .bool s], .slice (some ⟨bb, off, none⟩) n cap, .pointer (some ⟨B, 0, none⟩)] w fun e w' =>
      e = .returned (.tuple #[.int .i64 1, .int .i64 2]) ∧ w.grownBy w' (some B) ∧ InsAt w' B { x with a := if qa then 8 else 0, b := if qb then 8 else 0 } := by
  have h1 : ((n : Int) == 0) = false := by simpa using (by omega : ¬ n = 0)
  have hB := hx.1
  have x1 := hx.cell (i := 1) (by omega)
  have x2 := hx.cell (i := 2) (by omega)
  have f1 := hx.frozen (i := 1) (by omega)
  have f2 := hx.frozen (i := 2) (by omega)
  have HX := Lib.hid hx
  have key : ∀ W : World, InsAt W B x → InsAt W B { x with a := 0, b := 0 } := fun W h => by
    have e : ({ x with a := 0, b := 0 } : InsV) = x := by
      cases x
      simp only at xa xb
      subst xa xb
      rfl
    rw [e]; exact h
  clear hx xa xb
  have KEY := Lib.hid key
  clear key
  cases s
  · clear hc
    cases qa <;> cases qb
    · go_enter Try.func19, Try.ntmps19
      go_wp2
      go_ret2
      exact ⟨rfl, only_alloc (World.grownBy.refl _ _) _, (KEY.out _ HX.out).new _⟩
    · go_enter Try.func19, Try.ntmps19
      go_wp2
      go_ret2
      exact ⟨rfl, only_alloc (set_grown _ _ _ _) _, (InsAt.b8 (KEY.out _ HX.out)).new _⟩
    · go_enter Try.func19, Try.ntmps19
      go_wp2
      go_ret2
      exact ⟨rfl, only_alloc (set_grown _ _ _ _) _, (InsAt.a8 (KEY.out _ HX.out)).new _⟩
    · go_enter Try.func19, Try.ntmps19
      go_wp2
      go_ret2
      exact ⟨rfl, only_alloc (set_set_grown _ _ _ _ _ _) _, (InsAt.ab HX.out).new _⟩
  · replace hc := hc rfl
    cases qa <;> cases qb
    · go_enter Try.func19, Try.ntmps19
      go_wp2
      go_ret2
      exact ⟨rfl, only_alloc (World.grownBy.refl _ _) _, (KEY.out _ HX.out).new _⟩
    · go_enter Try.func19, Try.ntmps19
      go_wp2
      go_ret2
      exact ⟨rfl, only_alloc (set_grown _ _ _ _) _, (InsAt.b8 (KEY.out _ HX.out)).new _⟩
    · go_enter Try.func19, Try.ntmps19
      go_wp2
      go_ret2
      exact ⟨rfl, only_alloc (set_grown _ _ _ _) _, (InsAt.a8 (KEY.out _ HX.out)).new _⟩
    · go_enter Try.func19, Try.ntmps19
      go_wp2
      go_ret2
      exact ⟨rfl, only_alloc (set_set_grown _ _ _ _ _ _) _, (InsAt.ab HX.out).new _⟩
end Go.Proofs.Ytimjpdheaecajaa
