/- package exps: find. -/
import Derived.Test.YtbjabncefhgefaaExpA
import Derived.Laws.CopyOwn
namespace Go.Proofs.Ytbjabncefhgefaa
open Go.ChangeShapes Go.WideShapes Go.ChangeAt Go.RowKit
set_option linter.unusedVariables false
set_option linter.unusedSimpArgs false

theorem step_store_row {P : Program} {ops : Array Oper} {o : Oper} {a : Act} {w : World} {K : Act → World → Prop} {Q : Exit → Act → World → Prop} {E : Prop} (hgd : o.guard = none) (ty : TypeId) (x y : Operand) (ho : o.op = .store ty x y)
    (g : Nat) (cells : Array Value) (hx : a.eval x = .pointer (some ⟨g, 0, none⟩)) (hy : a.eval y = .agg cells)
    (t : TypeId) (old : Array Value) (hg : w.heap[g]? = some (.cells old t (0, 0))) (hi : (P.info? ty).map (·.size) = some cells.size)
    (hold : old.size = cells.size) (h1 : cells.all (·.oneCell') = true)
    (h : K (a.put o.dst undef) (w.setRow g cells)) : if Region.wanted o (yielded ops a.tmps) = true then Oper.wp P o a w K Q else E := by
  rw [if_pos (by simp [Region.wanted, hgd])]
  exact wp_store_row ty x y ho g cells hx hy t old hg hi hold h1 h

abbrev Rw.zero : Rw := ⟨0, 0, 0, 0, 0, 0⟩
theorem Rw.info (r : Rw) : (Try.prog.info? 83).map (·.size) = some r.cells.size := by kernel_rfl
theorem Rw.one (r : Rw) : r.cells.all (·.oneCell') = true := by simp [Rw.cells, Value.oneCell']
theorem Rw.built (a b c d e f : Int) : Try.prog.built 83 [(0, .int .i64 a), (1, .int .i64 b), (2, .int .i64 c), (3, .int .i64 d), (4, .int .i64 e), (5, .int .i64 f)] = some #[.int .i64 a, .int .i64 b, .int .i64 c, .int .i64 d, .int .i64 e, .int .i64 f] := by kernel_rfl

/-- What find tells. -/
def FindQ (r : Option Rw) (e : Ending) : Prop := match r with
  | some r => e = .returned (.tuple #[.agg r.cells, .bool true])
  | none => ∃ r : Rw, e = .returned (.tuple #[.agg r.cells, .bool false])

set_option maxRecDepth 100000 in
set_option maxHeartbeats 8000000 in
theorem find_any (A : Option Addr) (cap : Nat) (bs : List Nat) (rva size : Int) (w : World) (hb : Lb bs) (hl : bs.length ≤ cap) (hc : cap ≤ 9223372036854775807) (hlen : bs.length ≤ 1099511627776) (hs : SlB w A bs.length (lF bs)) (hr : -9223372036854775808 ≤ rva) (hr' : rva ≤ 9223372036854775807) (hz : -9223372036854775808 ≤ size) (hz' : size ≤ 9223372036854775807) :
    Calls Try.prog 29 #[.slice A bs.length cap, .agg #[.int .i64 rva, .int .i64 size]] w fun e w' => FindQ (findE bs rva size) e ∧ Below w.heap.size w w' := by
  have HS := Lib.hid (fun W (hW : Below w.heap.size w W) => SlB.below hs hW)
  have HLB := Lib.hid hb
  obtain ⟨R, hR⟩ : ∃ R, findE bs rva size = R := ⟨_, rfl⟩
  rw [hR]
  unfold findE at hR
  by_cases c0 : 40 ≤ size
  case neg =>
    rw [if_neg (by omega)] at hR
    subst hR
    have d0 : size < 40 := by omega
    clear hs c0
    go_enter Try.func29, Try.ntmps29
    go_wp2_with fail
    refine bodyPost_ret (v := .tuple #[.agg Rw.zero.cells, .bool false]) (by simp [results, Try.results29, go_sem, Rw.cells]) rfl ⟨⟨Rw.zero, rfl⟩, by go_grown⟩
  have d0 : ¬ size < 40 := by omega
  by_cases c1 : 0 ≤ rva ∧ rva ≤ bs.length - size
  case neg =>
    have HI := Lib.hid (fun W => rowIn_any A bs.length cap rva size false W (by omega) hz hz' (by simp; omega))
    rw [if_neg (by omega)] at hR
    subst hR
    clear hs c0 c1
    go_enter Try.func29, Try.ntmps29
    go_wp2_with fail
    refine (HI.out _).mono ?_
    rintro e w' ⟨rfl, rfl⟩
    go_wp2_with fail
    refine bodyPost_ret (v := .tuple #[.agg Rw.zero.cells, .bool false]) (by simp [results, Try.results29, go_sem, Rw.cells]) rfl ⟨⟨Rw.zero, rfl⟩, by go_grown⟩
  rw [if_pos (by omega)] at hR
  have HI := Lib.hid (fun W => rowIn_any A bs.length cap rva size true W (by omega) hz hz' (by simp; omega))
  obtain ⟨o, rfl⟩ : ∃ o : Nat, rva = (o : Int) := ⟨rva.toNat, by omega⟩
  rw [Int.toNat_natCast] at hR
  have hob : o + 40 ≤ bs.length := by omega
  have HU16 := Lib.hid (fun W (hW : Below w.heap.size w W) => u32e_any A cap bs (o + 16) W (by omega) HLB.out (by omega) (HS.out W hW))
  have HU20 := Lib.hid (fun W (hW : Below w.heap.size w W) => u32e_any A cap bs (o + 20) W (by omega) HLB.out (by omega) (HS.out W hW))
  have HU24 := Lib.hid (fun W (hW : Below w.heap.size w W) => u32e_any A cap bs (o + 24) W (by omega) HLB.out (by omega) (HS.out W hW))
  have HU28 := Lib.hid (fun W (hW : Below w.heap.size w W) => u32e_any A cap bs (o + 28) W (by omega) HLB.out (by omega) (HS.out W hW))
  have HU32 := Lib.hid (fun W (hW : Below w.heap.size w W) => u32e_any A cap bs (o + 32) W (by omega) HLB.out (by omega) (HS.out W hW))
  have HU36 := Lib.hid (fun W (hW : Below w.heap.size w W) => u32e_any A cap bs (o + 36) W (by omega) HLB.out (by omega) (HS.out W hW))
  have hn16 := numL_lt (hb.drop (o + 16)) 4
  have hn20 := numL_lt (hb.drop (o + 20)) 4
  have hn24 := numL_lt (hb.drop (o + 24)) 4
  have hn28 := numL_lt (hb.drop (o + 28)) 4
  have hn32 := numL_lt (hb.drop (o + 32)) 4
  have hn36 := numL_lt (hb.drop (o + 36)) 4
  obtain ⟨r, hr0⟩ : ∃ r, rowsL bs o = r := ⟨_, rfl⟩
  rw [hr0] at hR
  obtain ⟨b0, b1, b2, b3, b4, b5⟩ := r
  unfold rowsL at hr0
  injection hr0 with h0 h1 h2 h3 h4 h5
  rw [h0] at HU16 hn16
  rw [h1] at HU20 hn20
  rw [h2] at HU24 hn24
  rw [h3] at HU28 hn28
  rw [h4] at HU32 hn32
  rw [h5] at HU36 hn36
  obtain ⟨o16, ho16⟩ : ∃ q, o + 16 = q := ⟨_, rfl⟩
  obtain ⟨o20, ho20⟩ : ∃ q, o + 20 = q := ⟨_, rfl⟩
  obtain ⟨o24, ho24⟩ : ∃ q, o + 24 = q := ⟨_, rfl⟩
  obtain ⟨o28, ho28⟩ : ∃ q, o + 28 = q := ⟨_, rfl⟩
  obtain ⟨o32, ho32⟩ : ∃ q, o + 32 = q := ⟨_, rfl⟩
  obtain ⟨o36, ho36⟩ : ∃ q, o + 36 = q := ⟨_, rfl⟩
  rw [ho16] at HU16
  rw [ho20] at HU20
  rw [ho24] at HU24
  rw [ho28] at HU28
  rw [ho32] at HU32
  rw [ho36] at HU36
  have e16 : (o : Int) + 16 = (o16 : Int) := by omega
  have e20 : (o : Int) + 20 = (o20 : Int) := by omega
  have e24 : (o : Int) + 24 = (o24 : Int) := by omega
  have e28 : (o : Int) + 28 = (o28 : Int) := by omega
  have e32 : (o : Int) + 32 = (o32 : Int) := by omega
  have e36 : (o : Int) + 36 = (o36 : Int) := by omega
  have w16 : IntKind.i64.wrap (o16 : Int) = (o16 : Int) := by rw [IntKind.wrap_i64]; omega
  have w20 : IntKind.i64.wrap (o20 : Int) = (o20 : Int) := by rw [IntKind.wrap_i64]; omega
  have w24 : IntKind.i64.wrap (o24 : Int) = (o24 : Int) := by rw [IntKind.wrap_i64]; omega
  have w28 : IntKind.i64.wrap (o28 : Int) = (o28 : Int) := by rw [IntKind.wrap_i64]; omega
  have w32 : IntKind.i64.wrap (o32 : Int) = (o32 : Int) := by rw [IntKind.wrap_i64]; omega
  have w36 : IntKind.i64.wrap (o36 : Int) = (o36 : Int) := by rw [IntKind.wrap_i64]; omega
  have e32 : (256 : Nat) ^ 4 = 4294967296 := rfl
  rw [e32] at hn16 hn20 hn24 hn28 hn32 hn36
  have HR := Lib.hid hR
  have HB := Lib.hid (And.intro hn16 (And.intro hn20 (And.intro hn24 (And.intro hn28 (And.intro hn32 hn36)))))
  clear h0 h1 h2 h3 h4 h5 ho16 ho20 ho24 ho28 ho32 ho36 e32 hR hs hn16 hn20 hn24 hn28 hn32 hn36 c0 c1 hob
  go_enter Try.func29, Try.ntmps29
  go_upto_region 3 with (first | (refine (HI.out _).mono ?_; rintro e w' ⟨rfl, rfl⟩) | fail)
  have hW0 : Below w.heap.size w ((w.alloc (.cells #[.int .i64 o, .int .i64 size] 26)).alloc (.cells #[.int .i64 0, .int .i64 0, .int .i64 0, .int .i64 0, .int .i64 0, .int .i64 0] 83)) := ((Below.refl w.heap.size w).alloc (Nat.le_refl _) _).alloc (by simp) _
  have hrow : ((w.alloc (.cells #[.int .i64 o, .int .i64 size] 26)).alloc (.cells #[.int .i64 0, .int .i64 0, .int .i64 0, .int .i64 0, .int .i64 0, .int .i64 0] 83)).heap[w.heap.size + 1]? = some (.cells #[.int .i64 0, .int .i64 0, .int .i64 0, .int .i64 0, .int .i64 0, .int .i64 0] 83 (0, 0)) := by
    have h := heap_alloc_new (w.alloc (.cells #[.int .i64 o, .int .i64 size] 26)) (.cells #[.int .i64 0, .int .i64 0, .int .i64 0, .int .i64 0, .int .i64 0, .int .i64 0] 83)
    rwa [show (w.alloc (.cells #[.int .i64 o, .int .i64 size] 26)).heap.size = w.heap.size + 1 by simp] at h
  have hdir : ((w.alloc (.cells #[.int .i64 o, .int .i64 size] 26)).alloc (.cells #[.int .i64 0, .int .i64 0, .int .i64 0, .int .i64 0, .int .i64 0, .int .i64 0] 83)).heap[w.heap.size]? = some (.cells #[.int .i64 o, .int .i64 size] 26 (0, 0)) :=
    (Below.heap_alloc _ _ w.heap.size (by simp)).trans (heap_alloc_new w _)
  have hsz : ((w.alloc (.cells #[.int .i64 o, .int .i64 size] 26)).alloc (.cells #[.int .i64 0, .int .i64 0, .int .i64 0, .int .i64 0, .int .i64 0, .int .i64 0] 83)).heap.size = w.heap.size + 2 := by simp
  have HW0 := Lib.hid hW0
  have HROW := Lib.hid hrow
  have HDIR := Lib.hid hdir
  have HSZ := Lib.hid hsz
  clear hW0 hrow hdir hsz
  generalize (w.alloc (.cells #[.int .i64 o, .int .i64 size] 26)).alloc (.cells #[.int .i64 0, .int .i64 0, .int .i64 0, .int .i64 0, .int .i64 0, .int .i64 0] 83) = wc at *
  have HD0 := Lib.hid (fun W (hW : Below wc.heap.size wc W) => show W.cell? ⟨w.heap.size, 0, none⟩ = some (.int .i64 o) from by
    rw [cell_of_row _ _ _ _ _ _ ((hW.block w.heap.size (by rw [HSZ.out]; omega)).trans HDIR.out)]; rfl)
  have HS := Lib.hid (show Below wc.heap.size wc wc.drew from (Below.refl _ _).drew)
  refine wp_region_noPanic ?_
  refine wp_region_K (fun W => Below wc.heap.size wc W) (fun _ => True) 99 (by kernel_rfl) ?_
  replace HU16 := Lib.hid (fun W (hW : Below wc.heap.size wc W) => HU16.out W (HW0.out.trans (hW.mono HW0.out.size)))
  replace HU20 := Lib.hid (fun W (hW : Below wc.heap.size wc W) => HU20.out W (HW0.out.trans (hW.mono HW0.out.size)))
  replace HU24 := Lib.hid (fun W (hW : Below wc.heap.size wc W) => HU24.out W (HW0.out.trans (hW.mono HW0.out.size)))
  replace HU28 := Lib.hid (fun W (hW : Below wc.heap.size wc W) => HU28.out W (HW0.out.trans (hW.mono HW0.out.size)))
  replace HU32 := Lib.hid (fun W (hW : Below wc.heap.size wc W) => HU32.out W (HW0.out.trans (hW.mono HW0.out.size)))
  replace HU36 := Lib.hid (fun W (hW : Below wc.heap.size wc W) => HU36.out W (HW0.out.trans (hW.mono HW0.out.size)))
  refine wpAnyK_take (i := 0) (oi := ?_) (v := ?_) ?_ (by kernel_rfl) (by kernel_rfl) (by kernel_rfl) (fun _ _ _ h => h) (by decide) ?_ HS.out (fun _ => trivial) ?_
  rotate_left 2
  · (simp only [List.getElem?_toArray, List.getElem?_cons_succ, List.getElem?_cons_zero]; rfl)
  · (first | exact Or.inr ⟨by rfl, rfl⟩ | (refine Or.inl ⟨by rfl, ?_⟩; intro W hSw; clear hSw; go_simp; try with_reducible rfl))
  try simp only [Act.put, List.setIfInBounds_toArray, List.set_cons_zero, List.set_cons_succ]
  refine wpAnyK_take (i := 1) (oi := ?_) (v := ?_) ?_ (by kernel_rfl) (by kernel_rfl) (by kernel_rfl) (fun _ _ _ h => h) (by decide) ?_ HS.out (fun _ => trivial) ?_
  rotate_left 2
  · (simp only [List.getElem?_toArray, List.getElem?_cons_succ, List.getElem?_cons_zero]; rfl)
  · (first | exact Or.inr ⟨by rfl, rfl⟩ | (refine Or.inl ⟨by rfl, ?_⟩; intro W hSw; clear hSw; go_simp; try with_reducible rfl))
  try simp only [Act.put, List.setIfInBounds_toArray, List.set_cons_zero, List.set_cons_succ]
  refine wpAnyK_take (i := 2) (oi := ?_) (v := ?_) ?_ (by kernel_rfl) (by kernel_rfl) (by kernel_rfl) (fun _ _ _ h => h) (by decide) ?_ HS.out (fun _ => trivial) ?_
  rotate_left 2
  · (simp only [List.getElem?_toArray, List.getElem?_cons_succ, List.getElem?_cons_zero]; rfl)
  · (first | exact Or.inr ⟨by rfl, rfl⟩ | (refine Or.inl ⟨by rfl, ?_⟩; intro W hSw; have hq := HD0.out W hSw; clear hSw; go_simp; try with_reducible rfl))
  try simp only [Act.put, List.setIfInBounds_toArray, List.set_cons_zero, List.set_cons_succ]
  refine wpAnyK_take (i := 3) (oi := ?_) (v := ?_) ?_ (by kernel_rfl) (by kernel_rfl) (by kernel_rfl) (fun _ _ _ h => h) (by decide) ?_ HS.out (fun _ => trivial) ?_
  rotate_left 2
  · (simp only [List.getElem?_toArray, List.getElem?_cons_succ, List.getElem?_cons_zero]; rfl)
  · (first | exact Or.inr ⟨by rfl, rfl⟩ | (refine Or.inl ⟨by rfl, ?_⟩; intro W hSw; clear hSw; go_simp; try with_reducible rfl))
  try simp only [Act.put, List.setIfInBounds_toArray, List.set_cons_zero, List.set_cons_succ]
  refine wpAnyK_takeQ (i := 4) (oi := ?_) (v := .int .i64 b0) ?_ (by kernel_rfl) (by kernel_rfl) (by kernel_rfl) (fun _ _ _ h => h) (by decide) ?_ HS.out (fun _ => trivial) ?_
  rotate_left 1
  · (simp only [List.getElem?_toArray, List.getElem?_cons_succ, List.getElem?_cons_zero]; rfl)
  · refine ⟨by rfl, fun W hW => ⟨45, #[.slice A bs.length cap, .int .i64 o16], ?_, HU16.out W hW⟩⟩
    first | kernel_rfl | (go_simp; done) | rfl
  try simp only [Act.put, List.setIfInBounds_toArray, List.set_cons_zero, List.set_cons_succ]
  refine wpAnyK_take (i := 5) (oi := ?_) (v := ?_) ?_ (by kernel_rfl) (by kernel_rfl) (by kernel_rfl) (fun _ _ _ h => h) (by decide) ?_ HS.out (fun _ => trivial) ?_
  rotate_left 2
  · (simp only [List.getElem?_toArray, List.getElem?_cons_succ, List.getElem?_cons_zero]; rfl)
  · (first | exact Or.inr ⟨by rfl, rfl⟩ | (refine Or.inl ⟨by rfl, ?_⟩; intro W hSw; clear hSw; go_simp; try with_reducible rfl))
  try simp only [Act.put, List.setIfInBounds_toArray, List.set_cons_zero, List.set_cons_succ]
  refine wpAnyK_take (i := 6) (oi := ?_) (v := ?_) ?_ (by kernel_rfl) (by kernel_rfl) (by kernel_rfl) (fun _ _ _ h => h) (by decide) ?_ HS.out (fun _ => trivial) ?_
  rotate_left 2
  · (simp only [List.getElem?_toArray, List.getElem?_cons_succ, List.getElem?_cons_zero]; rfl)
  · (first | exact Or.inr ⟨by rfl, rfl⟩ | (refine Or.inl ⟨by rfl, ?_⟩; intro W hSw; clear hSw; go_simp; try with_reducible rfl))
  try simp only [Act.put, List.setIfInBounds_toArray, List.set_cons_zero, List.set_cons_succ]
  refine wpAnyK_take (i := 7) (oi := ?_) (v := ?_) ?_ (by kernel_rfl) (by kernel_rfl) (by kernel_rfl) (fun _ _ _ h => h) (by decide) ?_ HS.out (fun _ => trivial) ?_
  rotate_left 2
  · (simp only [List.getElem?_toArray, List.getElem?_cons_succ, List.getElem?_cons_zero]; rfl)
  · (first | exact Or.inr ⟨by rfl, rfl⟩ | (refine Or.inl ⟨by rfl, ?_⟩; intro W hSw; have hq := HD0.out W hSw; clear hSw; go_simp; try with_reducible rfl))
  try simp only [Act.put, List.setIfInBounds_toArray, List.set_cons_zero, List.set_cons_succ]
  refine wpAnyK_take (i := 8) (oi := ?_) (v := ?_) ?_ (by kernel_rfl) (by kernel_rfl) (by kernel_rfl) (fun _ _ _ h => h) (by decide) ?_ HS.out (fun _ => trivial) ?_
  rotate_left 2
  · (simp only [List.getElem?_toArray, List.getElem?_cons_succ, List.getElem?_cons_zero]; rfl)
  · (first | exact Or.inr ⟨by rfl, rfl⟩ | (refine Or.inl ⟨by rfl, ?_⟩; intro W hSw; clear hSw; go_simp; try with_reducible rfl))
  try simp only [Act.put, List.setIfInBounds_toArray, List.set_cons_zero, List.set_cons_succ]
  refine wpAnyK_takeQ (i := 9) (oi := ?_) (v := .int .i64 b1) ?_ (by kernel_rfl) (by kernel_rfl) (by kernel_rfl) (fun _ _ _ h => h) (by decide) ?_ HS.out (fun _ => trivial) ?_
  rotate_left 1
  · (simp only [List.getElem?_toArray, List.getElem?_cons_succ, List.getElem?_cons_zero]; rfl)
  · refine ⟨by rfl, fun W hW => ⟨45, #[.slice A bs.length cap, .int .i64 o20], ?_, HU20.out W hW⟩⟩
    first | kernel_rfl | (go_simp; done) | rfl
  try simp only [Act.put, List.setIfInBounds_toArray, List.set_cons_zero, List.set_cons_succ]
  refine wpAnyK_take (i := 10) (oi := ?_) (v := ?_) ?_ (by kernel_rfl) (by kernel_rfl) (by kernel_rfl) (fun _ _ _ h => h) (by decide) ?_ HS.out (fun _ => trivial) ?_
  rotate_left 2
  · (simp only [List.getElem?_toArray, List.getElem?_cons_succ, List.getElem?_cons_zero]; rfl)
  · (first | exact Or.inr ⟨by rfl, rfl⟩ | (refine Or.inl ⟨by rfl, ?_⟩; intro W hSw; clear hSw; go_simp; try with_reducible rfl))
  try simp only [Act.put, List.setIfInBounds_toArray, List.set_cons_zero, List.set_cons_succ]
  refine wpAnyK_take (i := 11) (oi := ?_) (v := ?_) ?_ (by kernel_rfl) (by kernel_rfl) (by kernel_rfl) (fun _ _ _ h => h) (by decide) ?_ HS.out (fun _ => trivial) ?_
  rotate_left 2
  · (simp only [List.getElem?_toArray, List.getElem?_cons_succ, List.getElem?_cons_zero]; rfl)
  · (first | exact Or.inr ⟨by rfl, rfl⟩ | (refine Or.inl ⟨by rfl, ?_⟩; intro W hSw; clear hSw; go_simp; try with_reducible rfl))
  try simp only [Act.put, List.setIfInBounds_toArray, List.set_cons_zero, List.set_cons_succ]
  refine wpAnyK_take (i := 12) (oi := ?_) (v := ?_) ?_ (by kernel_rfl) (by kernel_rfl) (by kernel_rfl) (fun _ _ _ h => h) (by decide) ?_ HS.out (fun _ => trivial) ?_
  rotate_left 2
  · (simp only [List.getElem?_toArray, List.getElem?_cons_succ, List.getElem?_cons_zero]; rfl)
  · (first | exact Or.inr ⟨by rfl, rfl⟩ | (refine Or.inl ⟨by rfl, ?_⟩; intro W hSw; have hq := HD0.out W hSw; clear hSw; go_simp; try with_reducible rfl))
  try simp only [Act.put, List.setIfInBounds_toArray, List.set_cons_zero, List.set_cons_succ]
  refine wpAnyK_take (i := 13) (oi := ?_) (v := ?_) ?_ (by kernel_rfl) (by kernel_rfl) (by kernel_rfl) (fun _ _ _ h => h) (by decide) ?_ HS.out (fun _ => trivial) ?_
  rotate_left 2
  · (simp only [List.getElem?_toArray, List.getElem?_cons_succ, List.getElem?_cons_zero]; rfl)
  · (first | exact Or.inr ⟨by rfl, rfl⟩ | (refine Or.inl ⟨by rfl, ?_⟩; intro W hSw; clear hSw; go_simp; try with_reducible rfl))
  try simp only [Act.put, List.setIfInBounds_toArray, List.set_cons_zero, List.set_cons_succ]
  refine wpAnyK_takeQ (i := 14) (oi := ?_) (v := .int .i64 b2) ?_ (by kernel_rfl) (by kernel_rfl) (by kernel_rfl) (fun _ _ _ h => h) (by decide) ?_ HS.out (fun _ => trivial) ?_
  rotate_left 1
  · (simp only [List.getElem?_toArray, List.getElem?_cons_succ, List.getElem?_cons_zero]; rfl)
  · refine ⟨by rfl, fun W hW => ⟨45, #[.slice A bs.length cap, .int .i64 o24], ?_, HU24.out W hW⟩⟩
    first | kernel_rfl | (go_simp; done) | rfl
  try simp only [Act.put, List.setIfInBounds_toArray, List.set_cons_zero, List.set_cons_succ]
  refine wpAnyK_take (i := 15) (oi := ?_) (v := ?_) ?_ (by kernel_rfl) (by kernel_rfl) (by kernel_rfl) (fun _ _ _ h => h) (by decide) ?_ HS.out (fun _ => trivial) ?_
  rotate_left 2
  · (simp only [List.getElem?_toArray, List.getElem?_cons_succ, List.getElem?_cons_zero]; rfl)
  · (first | exact Or.inr ⟨by rfl, rfl⟩ | (refine Or.inl ⟨by rfl, ?_⟩; intro W hSw; clear hSw; go_simp; try with_reducible rfl))
  try simp only [Act.put, List.setIfInBounds_toArray, List.set_cons_zero, List.set_cons_succ]
  refine wpAnyK_take (i := 16) (oi := ?_) (v := ?_) ?_ (by kernel_rfl) (by kernel_rfl) (by kernel_rfl) (fun _ _ _ h => h) (by decide) ?_ HS.out (fun _ => trivial) ?_
  rotate_left 2
  · (simp only [List.getElem?_toArray, List.getElem?_cons_succ, List.getElem?_cons_zero]; rfl)
  · (first | exact Or.inr ⟨by rfl, rfl⟩ | (refine Or.inl ⟨by rfl, ?_⟩; intro W hSw; clear hSw; go_simp; try with_reducible rfl))
  try simp only [Act.put, List.setIfInBounds_toArray, List.set_cons_zero, List.set_cons_succ]
  refine wpAnyK_take (i := 17) (oi := ?_) (v := ?_) ?_ (by kernel_rfl) (by kernel_rfl) (by kernel_rfl) (fun _ _ _ h => h) (by decide) ?_ HS.out (fun _ => trivial) ?_
  rotate_left 2
  · (simp only [List.getElem?_toArray, List.getElem?_cons_succ, List.getElem?_cons_zero]; rfl)
  · (first | exact Or.inr ⟨by rfl, rfl⟩ | (refine Or.inl ⟨by rfl, ?_⟩; intro W hSw; have hq := HD0.out W hSw; clear hSw; go_simp; try with_reducible rfl))
  try simp only [Act.put, List.setIfInBounds_toArray, List.set_cons_zero, List.set_cons_succ]
  refine wpAnyK_take (i := 18) (oi := ?_) (v := ?_) ?_ (by kernel_rfl) (by kernel_rfl) (by kernel_rfl) (fun _ _ _ h => h) (by decide) ?_ HS.out (fun _ => trivial) ?_
  rotate_left 2
  · (simp only [List.getElem?_toArray, List.getElem?_cons_succ, List.getElem?_cons_zero]; rfl)
  · (first | exact Or.inr ⟨by rfl, rfl⟩ | (refine Or.inl ⟨by rfl, ?_⟩; intro W hSw; clear hSw; go_simp; try with_reducible rfl))
  try simp only [Act.put, List.setIfInBounds_toArray, List.set_cons_zero, List.set_cons_succ]
  refine wpAnyK_takeQ (i := 19) (oi := ?_) (v := .int .i64 b3) ?_ (by kernel_rfl) (by kernel_rfl) (by kernel_rfl) (fun _ _ _ h => h) (by decide) ?_ HS.out (fun _ => trivial) ?_
  rotate_left 1
  · (simp only [List.getElem?_toArray, List.getElem?_cons_succ, List.getElem?_cons_zero]; rfl)
  · refine ⟨by rfl, fun W hW => ⟨45, #[.slice A bs.length cap, .int .i64 o28], ?_, HU28.out W hW⟩⟩
    first | kernel_rfl | (go_simp; done) | rfl
  try simp only [Act.put, List.setIfInBounds_toArray, List.set_cons_zero, List.set_cons_succ]
  refine wpAnyK_take (i := 20) (oi := ?_) (v := ?_) ?_ (by kernel_rfl) (by kernel_rfl) (by kernel_rfl) (fun _ _ _ h => h) (by decide) ?_ HS.out (fun _ => trivial) ?_
  rotate_left 2
  · (simp only [List.getElem?_toArray, List.getElem?_cons_succ, List.getElem?_cons_zero]; rfl)
  · (first | exact Or.inr ⟨by rfl, rfl⟩ | (refine Or.inl ⟨by rfl, ?_⟩; intro W hSw; clear hSw; go_simp; try with_reducible rfl))
  try simp only [Act.put, List.setIfInBounds_toArray, List.set_cons_zero, List.set_cons_succ]
  refine wpAnyK_take (i := 21) (oi := ?_) (v := ?_) ?_ (by kernel_rfl) (by kernel_rfl) (by kernel_rfl) (fun _ _ _ h => h) (by decide) ?_ HS.out (fun _ => trivial) ?_
  rotate_left 2
  · (simp only [List.getElem?_toArray, List.getElem?_cons_succ, List.getElem?_cons_zero]; rfl)
  · (first | exact Or.inr ⟨by rfl, rfl⟩ | (refine Or.inl ⟨by rfl, ?_⟩; intro W hSw; clear hSw; go_simp; try with_reducible rfl))
  try simp only [Act.put, List.setIfInBounds_toArray, List.set_cons_zero, List.set_cons_succ]
  refine wpAnyK_take (i := 22) (oi := ?_) (v := ?_) ?_ (by kernel_rfl) (by kernel_rfl) (by kernel_rfl) (fun _ _ _ h => h) (by decide) ?_ HS.out (fun _ => trivial) ?_
  rotate_left 2
  · (simp only [List.getElem?_toArray, List.getElem?_cons_succ, List.getElem?_cons_zero]; rfl)
  · (first | exact Or.inr ⟨by rfl, rfl⟩ | (refine Or.inl ⟨by rfl, ?_⟩; intro W hSw; have hq := HD0.out W hSw; clear hSw; go_simp; try with_reducible rfl))
  try simp only [Act.put, List.setIfInBounds_toArray, List.set_cons_zero, List.set_cons_succ]
  refine wpAnyK_take (i := 23) (oi := ?_) (v := ?_) ?_ (by kernel_rfl) (by kernel_rfl) (by kernel_rfl) (fun _ _ _ h => h) (by decide) ?_ HS.out (fun _ => trivial) ?_
  rotate_left 2
  · (simp only [List.getElem?_toArray, List.getElem?_cons_succ, List.getElem?_cons_zero]; rfl)
  · (first | exact Or.inr ⟨by rfl, rfl⟩ | (refine Or.inl ⟨by rfl, ?_⟩; intro W hSw; clear hSw; go_simp; try with_reducible rfl))
  try simp only [Act.put, List.setIfInBounds_toArray, List.set_cons_zero, List.set_cons_succ]
  refine wpAnyK_takeQ (i := 24) (oi := ?_) (v := .int .i64 b4) ?_ (by kernel_rfl) (by kernel_rfl) (by kernel_rfl) (fun _ _ _ h => h) (by decide) ?_ HS.out (fun _ => trivial) ?_
  rotate_left 1
  · (simp only [List.getElem?_toArray, List.getElem?_cons_succ, List.getElem?_cons_zero]; rfl)
  · refine ⟨by rfl, fun W hW => ⟨45, #[.slice A bs.length cap, .int .i64 o32], ?_, HU32.out W hW⟩⟩
    first | kernel_rfl | (go_simp; done) | rfl
  try simp only [Act.put, List.setIfInBounds_toArray, List.set_cons_zero, List.set_cons_succ]
  refine wpAnyK_take (i := 25) (oi := ?_) (v := ?_) ?_ (by kernel_rfl) (by kernel_rfl) (by kernel_rfl) (fun _ _ _ h => h) (by decide) ?_ HS.out (fun _ => trivial) ?_
  rotate_left 2
  · (simp only [List.getElem?_toArray, List.getElem?_cons_succ, List.getElem?_cons_zero]; rfl)
  · (first | exact Or.inr ⟨by rfl, rfl⟩ | (refine Or.inl ⟨by rfl, ?_⟩; intro W hSw; clear hSw; go_simp; try with_reducible rfl))
  try simp only [Act.put, List.setIfInBounds_toArray, List.set_cons_zero, List.set_cons_succ]
  refine wpAnyK_take (i := 26) (oi := ?_) (v := ?_) ?_ (by kernel_rfl) (by kernel_rfl) (by kernel_rfl) (fun _ _ _ h => h) (by decide) ?_ HS.out (fun _ => trivial) ?_
  rotate_left 2
  · (simp only [List.getElem?_toArray, List.getElem?_cons_succ, List.getElem?_cons_zero]; rfl)
  · (first | exact Or.inr ⟨by rfl, rfl⟩ | (refine Or.inl ⟨by rfl, ?_⟩; intro W hSw; clear hSw; go_simp; try with_reducible rfl))
  try simp only [Act.put, List.setIfInBounds_toArray, List.set_cons_zero, List.set_cons_succ]
  refine wpAnyK_take (i := 27) (oi := ?_) (v := ?_) ?_ (by kernel_rfl) (by kernel_rfl) (by kernel_rfl) (fun _ _ _ h => h) (by decide) ?_ HS.out (fun _ => trivial) ?_
  rotate_left 2
  · (simp only [List.getElem?_toArray, List.getElem?_cons_succ, List.getElem?_cons_zero]; rfl)
  · (first | exact Or.inr ⟨by rfl, rfl⟩ | (refine Or.inl ⟨by rfl, ?_⟩; intro W hSw; have hq := HD0.out W hSw; clear hSw; go_simp; try with_reducible rfl))
  try simp only [Act.put, List.setIfInBounds_toArray, List.set_cons_zero, List.set_cons_succ]
  refine wpAnyK_take (i := 28) (oi := ?_) (v := ?_) ?_ (by kernel_rfl) (by kernel_rfl) (by kernel_rfl) (fun _ _ _ h => h) (by decide) ?_ HS.out (fun _ => trivial) ?_
  rotate_left 2
  · (simp only [List.getElem?_toArray, List.getElem?_cons_succ, List.getElem?_cons_zero]; rfl)
  · (first | exact Or.inr ⟨by rfl, rfl⟩ | (refine Or.inl ⟨by rfl, ?_⟩; intro W hSw; clear hSw; go_simp; try with_reducible rfl))
  try simp only [Act.put, List.setIfInBounds_toArray, List.set_cons_zero, List.set_cons_succ]
  refine wpAnyK_takeQ (i := 29) (oi := ?_) (v := .int .i64 b5) ?_ (by kernel_rfl) (by kernel_rfl) (by kernel_rfl) (fun _ _ _ h => h) (by decide) ?_ HS.out (fun _ => trivial) ?_
  rotate_left 1
  · (simp only [List.getElem?_toArray, List.getElem?_cons_succ, List.getElem?_cons_zero]; rfl)
  · refine ⟨by rfl, fun W hW => ⟨45, #[.slice A bs.length cap, .int .i64 o36], ?_, HU36.out W hW⟩⟩
    first | kernel_rfl | (go_simp; done) | rfl
  try simp only [Act.put, List.setIfInBounds_toArray, List.set_cons_zero, List.set_cons_succ]
  refine wpAnyK_take (i := 30) (oi := ?_) (v := ?_) ?_ (by kernel_rfl) (by kernel_rfl) (by kernel_rfl) (fun _ _ _ h => h) (by decide) ?_ HS.out (fun _ => trivial) ?_
  rotate_left 2
  · (simp only [List.getElem?_toArray, List.getElem?_cons_succ, List.getElem?_cons_zero]; rfl)
  · (first | exact Or.inr ⟨by rfl, rfl⟩ | (refine Or.inl ⟨by rfl, ?_⟩; intro W hSw; clear hSw; go_simp; try with_reducible rfl))
  try simp only [Act.put, List.setIfInBounds_toArray, List.set_cons_zero, List.set_cons_succ]
  refine wpAnyK_one (i := 31) (o := ?_) (by kernel_rfl) ?_ (fun K hK => ?_)
  rotate_left 1
  · (simp only [List.getElem?_toArray, List.getElem?_cons_succ, List.getElem?_cons_zero]; rfl)
  go_simp
  have HS2 := Lib.hid (HS.out.alloc HS.out.size (.cells #[.int .i64 0, .int .i64 0, .int .i64 0, .int .i64 0, .int .i64 0, .int .i64 0] 83))
  refine hK.out _ _ HS2.out (fun _ => trivial) ?_
  clear hK K
  try simp only [Act.put, List.setIfInBounds_toArray, List.set_cons_zero, List.set_cons_succ]
  refine wpAnyK_one (i := 32) (o := ?_) (by kernel_rfl) ?_ (fun K hK => ?_)
  rotate_left 1
  · (simp only [List.getElem?_toArray, List.getElem?_cons_succ, List.getElem?_cons_zero]; rfl)
  refine step_store_row rfl 83 _ _ rfl wc.heap.size (Rw.cells ⟨b0, b1, b2, b3, b4, b5⟩) ?_ ?_ 83 Rw.zero.cells (heap_alloc_new wc.drew _) (Rw.info _) rfl (Rw.one _) ?_
  · first | rfl | simp [Act.eval]
  · first | rfl | simp [Act.eval]
  have HS3 := Lib.hid (show Below wc.heap.size wc ((wc.alloc (.cells #[.int .i64 0, .int .i64 0, .int .i64 0, .int .i64 0, .int .i64 0, .int .i64 0] 83)).drew.setRow wc.heap.size (Rw.cells ⟨b0, b1, b2, b3, b4, b5⟩)) from below_setRow HS2.out (Nat.le_refl _) (Rw.cells ⟨b0, b1, b2, b3, b4, b5⟩))
  have HR3 := Lib.hid (show ((wc.alloc (.cells #[.int .i64 0, .int .i64 0, .int .i64 0, .int .i64 0, .int .i64 0, .int .i64 0] 83)).drew.setRow wc.heap.size (Rw.cells ⟨b0, b1, b2, b3, b4, b5⟩)).heap[wc.heap.size]? = some (.cells (Rw.cells ⟨b0, b1, b2, b3, b4, b5⟩) 83 (0, 0)) from setRow_heap (wc.drew.alloc (.cells #[.int .i64 0, .int .i64 0, .int .i64 0, .int .i64 0, .int .i64 0, .int .i64 0] 83)) wc.heap.size _ (Rw.cells ⟨b0, b1, b2, b3, b4, b5⟩) _ _ (heap_alloc_new wc.drew (.cells #[.int .i64 0, .int .i64 0, .int .i64 0, .int .i64 0, .int .i64 0, .int .i64 0] 83)))
  refine hK.out _ _ HS3.out (fun _ => trivial) ?_
  clear hK K
  try simp only [Act.put, List.setIfInBounds_toArray, List.set_cons_zero, List.set_cons_succ]
  refine wpAnyK_done (by kernel_rfl) ?_ _
  refine NoPanic.normal ?_
  have HROW3 := Lib.hid ((HS3.out.block (w.heap.size + 1) (by rw [HSZ.out]; omega)).trans HROW.out)
  have HW3 := Lib.hid (HW0.out.trans (HS3.out.mono HW0.out.size))
  generalize (wc.alloc (.cells #[.int .i64 0, .int .i64 0, .int .i64 0, .int .i64 0, .int .i64 0, .int .i64 0] 83)).drew.setRow wc.heap.size (Rw.cells ⟨b0, b1, b2, b3, b4, b5⟩) = w3 at *
  generalize wc.heap.size = b6 at *
  have c0 : w3.cell? ⟨b6, 0, none⟩ = some (.int .i64 b0) := by rw [cell_of_row _ _ _ _ _ _ HR3.out]; rfl
  have c1 : w3.cell? ⟨b6, 1, none⟩ = some (.int .i64 b1) := by rw [cell_of_row _ _ _ _ _ _ HR3.out]; rfl
  have c2 : w3.cell? ⟨b6, 2, none⟩ = some (.int .i64 b2) := by rw [cell_of_row _ _ _ _ _ _ HR3.out]; rfl
  have c3 : w3.cell? ⟨b6, 3, none⟩ = some (.int .i64 b3) := by rw [cell_of_row _ _ _ _ _ _ HR3.out]; rfl
  have c4 : w3.cell? ⟨b6, 4, none⟩ = some (.int .i64 b4) := by rw [cell_of_row _ _ _ _ _ _ HR3.out]; rfl
  have c5 : w3.cell? ⟨b6, 5, none⟩ = some (.int .i64 b5) := by rw [cell_of_row _ _ _ _ _ _ HR3.out]; rfl
  obtain ⟨w4, hw4⟩ : ∃ w4, w3.setRow (w.heap.size + 1) Rw.zero.cells = w4 := ⟨_, rfl⟩
  have HZ3 := Lib.hid (show w4.heap[w.heap.size + 1]? = some (.cells Rw.zero.cells 83 (0, 0)) from by rw [← hw4]; exact setRow_heap w3 (w.heap.size + 1) _ Rw.zero.cells _ _ HROW3.out)
  have HW4 := Lib.hid (show Below w.heap.size w w4 from by rw [← hw4]; exact below_setRow HW3.out (Nat.le_succ _) _)
  have HE4 := Lib.hid hw4
  have k0 : w4.cell? ⟨w.heap.size + 1, 0, none⟩ = some (.int .i64 0) := by rw [cell_of_row _ _ _ _ _ _ HZ3.out]; rfl
  have k1 : w4.cell? ⟨w.heap.size + 1, 1, none⟩ = some (.int .i64 0) := by rw [cell_of_row _ _ _ _ _ _ HZ3.out]; rfl
  have k2 : w4.cell? ⟨w.heap.size + 1, 2, none⟩ = some (.int .i64 0) := by rw [cell_of_row _ _ _ _ _ _ HZ3.out]; rfl
  have k3 : w4.cell? ⟨w.heap.size + 1, 3, none⟩ = some (.int .i64 0) := by rw [cell_of_row _ _ _ _ _ _ HZ3.out]; rfl
  have k4 : w4.cell? ⟨w.heap.size + 1, 4, none⟩ = some (.int .i64 0) := by rw [cell_of_row _ _ _ _ _ _ HZ3.out]; rfl
  have k5 : w4.cell? ⟨w.heap.size + 1, 5, none⟩ = some (.int .i64 0) := by rw [cell_of_row _ _ _ _ _ _ HZ3.out]; rfl
  clear hw4 HS HS2 HS3 HD0 HI HLB e16 e20 e24 e28 e32 e36 w16 w20 w24 w28 w32 w36 HU16 HU20 HU24 HU28 HU32 HU36 HSZ HDIR
  by_cases g4 : b0 < 65536 ∧ b1 ≤ 256 ∧ b2 ≤ 256 ∧ b0 + b1 ≤ 65536
  case neg =>
    have HRN := Lib.hid (show R = none from by
      rw [← HR.out]
      refine if_neg fun h => g4 ?_
      simp only [Rw.ok, Bool.and_eq_true, decide_eq_true_eq] at h
      exact ⟨h.1.1.1.1.1.1, h.1.1.1.1.1.2, h.1.1.1.1.2, h.1.1.1.2⟩)
    have hor : (65536 : Int) ≤ b0 ∨ ((b0 : Int) < 65536 ∧ (256 : Int) < b1) ∨ ((b0 : Int) < 65536 ∧ (b1 : Int) ≤ 256 ∧ (256 : Int) < b2) ∨ ((b0 : Int) < 65536 ∧ (b1 : Int) ≤ 256 ∧ (b2 : Int) ≤ 256 ∧ (65536 : Int) < (b0 : Int) + (b1 : Int)) := by omega
    clear g4 c3 c4 c5
    rcases hor with i1 | ⟨i1, i2⟩ | ⟨i1, i2, i3⟩ | ⟨i1, i2, i3, i4⟩
    all_goals
      go_wp2_with (first | (refine wpList_store_row rfl 83 _ _ rfl (w.heap.size + 1) Rw.zero.cells rfl rfl 83 Rw.zero.cells HROW3.out (Rw.info _) rfl (Rw.one _) ?_; rw [HE4.out]) | fail)
      refine bodyPost_ret (v := .tuple #[.agg Rw.zero.cells, .bool false]) (by simp [results, Try.results29, go_sem, Rw.cells, k0, k1, k2, k3, k4, k5]) rfl ⟨?_, HW4.out⟩
      rw [HRN.out]
      exact ⟨Rw.zero, rfl⟩
  obtain ⟨q1, hq1⟩ : ∃ q, 4 * b1 = q := ⟨_, rfl⟩
  obtain ⟨q2, hq2⟩ : ∃ q, 4 * b2 = q := ⟨_, rfl⟩
  obtain ⟨q3, hq3⟩ : ∃ q, 2 * b2 = q := ⟨_, rfl⟩
  have eq1 : (4 : Int) * (b1 : Int) = (q1 : Int) := by omega
  have eq2 : (4 : Int) * (b2 : Int) = (q2 : Int) := by omega
  have eq3 : (2 : Int) * (b2 : Int) = (q3 : Int) := by omega
  have HF1 := Lib.hid (fun W => rowInE_any A bs.length cap b3 q1 W (by omega) (by omega))
  have HF2 := Lib.hid (fun W => rowInE_any A bs.length cap b4 q2 W (by omega) (by omega))
  have HF3 := Lib.hid (fun W => rowInE_any A bs.length cap b5 q3 W (by omega) (by omega))
  have HRR : R = if inL bs.length b3 q1 && inL bs.length b4 q2 && inL bs.length b5 q3 then some ⟨b0, b1, b2, b3, b4, b5⟩ else none := by
    rw [← HR.out]
    obtain ⟨g1, g2, g3, g5⟩ := g4
    simp only [Rw.ok, g1, g2, g3, g5, decide_true, Bool.true_and, hq1, hq2, hq3]
  have i1 : decide ((65536 : Int) ≤ (b0 : Int)) = false := decide_eq_false (by omega)
  have i2 : decide ((256 : Int) < (b1 : Int)) = false := decide_eq_false (by omega)
  have i3 : decide ((256 : Int) < (b2 : Int)) = false := decide_eq_false (by omega)
  obtain ⟨s01, hs01⟩ : ∃ q, b0 + b1 = q := ⟨_, rfl⟩
  have es : (b0 : Int) + (b1 : Int) = (s01 : Int) := by omega
  have ws : IntKind.i64.wrap (s01 : Int) = (s01 : Int) := by rw [IntKind.wrap_i64]; omega
  have i4 : decide ((65536 : Int) < (s01 : Int)) = false := decide_eq_false (by omega)
  have wq1 : IntKind.i64.wrap (q1 : Int) = (q1 : Int) := by rw [IntKind.wrap_i64]; omega
  have wq2 : IntKind.i64.wrap (q2 : Int) = (q2 : Int) := by rw [IntKind.wrap_i64]; omega
  have wq3 : IntKind.i64.wrap (q3 : Int) = (q3 : Int) := by rw [IntKind.wrap_i64]; omega
  generalize inL bs.length b3 q1 = T1 at *
  generalize inL bs.length b4 q2 = T2 at *
  generalize inL bs.length b5 q3 = T3 at *
  clear g4 hq1 hq2 hq3 hs01
  go_wp2_with fail
  refine (HF1.out _).mono ?_
  rintro e w' ⟨rfl, rfl⟩
  cases T1
  · have HRN : R = none := HRR
    clear HRR HF2 HF3
    go_wp2_with (first | (refine wpList_store_row rfl 83 _ _ rfl (w.heap.size + 1) Rw.zero.cells rfl rfl 83 Rw.zero.cells HROW3.out (Rw.info _) rfl (Rw.one _) ?_; rw [HE4.out]) | fail)
    refine bodyPost_ret (v := .tuple #[.agg Rw.zero.cells, .bool false]) (by simp [results, Try.results29, go_sem, Rw.cells, k0, k1, k2, k3, k4, k5]) rfl ⟨?_, HW4.out⟩
    rw [HRN]
    exact ⟨Rw.zero, rfl⟩
  go_wp2_with fail
  refine (HF2.out _).mono ?_
  rintro e w' ⟨rfl, rfl⟩
  cases T2
  · have HRN : R = none := HRR
    clear HRR HF3
    go_wp2_with (first | (refine wpList_store_row rfl 83 _ _ rfl (w.heap.size + 1) Rw.zero.cells rfl rfl 83 Rw.zero.cells HROW3.out (Rw.info _) rfl (Rw.one _) ?_; rw [HE4.out]) | fail)
    refine bodyPost_ret (v := .tuple #[.agg Rw.zero.cells, .bool false]) (by simp [results, Try.results29, go_sem, Rw.cells, k0, k1, k2, k3, k4, k5]) rfl ⟨?_, HW4.out⟩
    rw [HRN]
    exact ⟨Rw.zero, rfl⟩
  go_wp2_with fail
  refine (HF3.out _).mono ?_
  rintro e w' ⟨rfl, rfl⟩
  cases T3
  · have HRN : R = none := HRR
    clear HRR
    go_wp2_with (first | (refine wpList_store_row rfl 83 _ _ rfl (w.heap.size + 1) Rw.zero.cells rfl rfl 83 Rw.zero.cells HROW3.out (Rw.info _) rfl (Rw.one _) ?_; rw [HE4.out]) | fail)
    refine bodyPost_ret (v := .tuple #[.agg Rw.zero.cells, .bool false]) (by simp [results, Try.results29, go_sem, Rw.cells, k0, k1, k2, k3, k4, k5]) rfl ⟨?_, HW4.out⟩
    rw [HRN]
    exact ⟨Rw.zero, rfl⟩
  have HRS : R = some ⟨b0, b1, b2, b3, b4, b5⟩ := HRR
  clear HRR
  obtain ⟨w5, hw5⟩ : ∃ w5, w3.setRow (w.heap.size + 1) (Rw.cells ⟨b0, b1, b2, b3, b4, b5⟩) = w5 := ⟨_, rfl⟩
  have HZ5 := Lib.hid (show w5.heap[w.heap.size + 1]? = some (.cells (Rw.cells ⟨b0, b1, b2, b3, b4, b5⟩) 83 (0, 0)) from by rw [← hw5]; exact setRow_heap w3 (w.heap.size + 1) _ (Rw.cells ⟨b0, b1, b2, b3, b4, b5⟩) _ _ HROW3.out)
  have HW5 := Lib.hid (show Below w.heap.size w w5 from by rw [← hw5]; exact below_setRow HW3.out (Nat.le_succ _) _)
  have HE5 := Lib.hid hw5
  clear hw5 k0 k1 k2 k3 k4 k5
  have k0 : w5.cell? ⟨w.heap.size + 1, 0, none⟩ = some (.int .i64 b0) := by rw [cell_of_row _ _ _ _ _ _ HZ5.out]; rfl
  have k1 : w5.cell? ⟨w.heap.size + 1, 1, none⟩ = some (.int .i64 b1) := by rw [cell_of_row _ _ _ _ _ _ HZ5.out]; rfl
  have k2 : w5.cell? ⟨w.heap.size + 1, 2, none⟩ = some (.int .i64 b2) := by rw [cell_of_row _ _ _ _ _ _ HZ5.out]; rfl
  have k3 : w5.cell? ⟨w.heap.size + 1, 3, none⟩ = some (.int .i64 b3) := by rw [cell_of_row _ _ _ _ _ _ HZ5.out]; rfl
  have k4 : w5.cell? ⟨w.heap.size + 1, 4, none⟩ = some (.int .i64 b4) := by rw [cell_of_row _ _ _ _ _ _ HZ5.out]; rfl
  have k5 : w5.cell? ⟨w.heap.size + 1, 5, none⟩ = some (.int .i64 b5) := by rw [cell_of_row _ _ _ _ _ _ HZ5.out]; rfl
  go_wp2_with (first | (refine wpList_store_row rfl 83 _ _ rfl (w.heap.size + 1) (Rw.cells ⟨b0, b1, b2, b3, b4, b5⟩) rfl rfl 83 Rw.zero.cells HROW3.out (Rw.info _) rfl (Rw.one _) ?_; rw [HE5.out]) | fail)
  refine bodyPost_ret (v := .tuple #[.agg (Rw.cells ⟨b0, b1, b2, b3, b4, b5⟩), .bool true]) (by simp [results, Try.results29, go_sem, Rw.cells, k0, k1, k2, k3, k4, k5]) rfl ⟨?_, HW5.out⟩
  rw [HRS]
  rfl
end Go.Proofs.Ytbjabncefhgefaa
