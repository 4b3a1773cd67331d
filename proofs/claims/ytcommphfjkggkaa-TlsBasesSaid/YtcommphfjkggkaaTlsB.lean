/- package tlsdir: Parse. -/
import Derived.Test.YtcommphfjkggkaaTlsA
import Derived.Deep.MidRow
import Derived.Laws.CopyOwn
namespace Go.Proofs.Ytcommphfjkggkaa
open Go.ChangeShapes Go.WideShapes Go.ChangeAt Go.RowKit
set_option linter.unusedVariables false

theorem results_cell_tmp {P : Program} {fn : Func} {p q : Tmp} {ty : TypeId} (h : fn.results = #[.cell p ty, .tmp q]) (tmps : Array Value) (w : World) (g : Nat) (t : TypeId) (cs : Array Value) (fr : Nat × Nat) (d : TypeDesc) (v : Value)
    (hp : tmps.getD p undef = .pointer (some ⟨g, 0, none⟩)) (hq : tmps.getD q undef = v) (hg : w.heap[g]? = some (.cells cs t fr))
    (hu : P.underlying ty = some d) (hd : (match d with | .struct _ | .array _ _ => true | _ => false) = true) (hi : (P.info? ty).map (·.size) = some cs.size) :
    (results fn tmps).run P w = .ok (.tuple #[.agg cs, v]) w := by
  have hp' : tmps[p]?.getD undef = .pointer (some ⟨g, 0, none⟩) := by simpa using hp
  have hq' : tmps[q]?.getD undef = v := by simpa using hq
  simp [results, h, hp', hq', asAddr, run_loadVar_row w g t ty cs fr d hg hu hd hi]

set_option maxRecDepth 100000 in
set_option maxHeartbeats 1000000 in
theorem tls_ok (A : Option Addr) (n cap : Nat) (f : Nat → Int) (s b x : Int) (cs : List Int) (w : World) (hf : Bytes255 f) (hs : SlB w A n f) (hi : TlsI n f b x cs) :
    Calls Try.prog 20 #[.slice A n cap, .agg #[.int .i64 16, .int .i64 s], .int .u64 b] w fun e w' =>
      (∃ L c, e = .returned (.tuple #[.agg #[.bool true, .int .i64 x, .slice L cs.length c], .int .i64 0]) ∧ SlT intC 1 w' L cs) ∧ Below w.heap.size w w' := by
  have HS := Lib.hid hs
  have HF := Lib.hid hf
  have HI := Lib.hid hi
  have hlenA : 72 + 8 * cs.length ≤ n := Nat.le_of_eq hi.len.symm
  have hlenB : n ≤ 72 + 8 * cs.length := Nat.le_of_eq hi.len
  have hmost := hi.most
  have hb0 := hi.b0
  have hb1 := hi.b1
  have hx0 := hi.x0
  have hx1 := hi.x1
  clear hs hf hi
  have HB0 := Lib.hid (((Below.refl w.heap.size w).alloc (Nat.le_refl _) (.cells #[.int .i64 16, .int .i64 s] 24)).alloc (by simp) (.cells #[.bool false, .int .i64 0, .slice none 0 0] 58))
  have HIN := Lib.hid (fun W : World => rowIn_any A n cap 16 40 true W (by omega) (by omega) (by omega) ⟨fun _ => ⟨by omega, by omega, by omega⟩, fun _ => rfl⟩)
  obtain ⟨bb, off, rfl, hlt, hrow⟩ : ∃ b off, A = some ⟨b, off, none⟩ ∧ b < w.heap.size ∧ Row w b off n f := by
    rcases HS.out with h | h
    · omega
    · exact h
  have HROW := Lib.hid (show ∀ W, Below w.heap.size w W → Row W bb off n f from fun W hW => hrow.below hW hlt)
  have HSS := Lib.hid (show ∀ W, Below w.heap.size w W → SlB W (some ⟨bb, off, none⟩) n f from fun W hW => HS.out.below hW)
  clear hrow hlt
  go_enter Try.func20, Try.ntmps20
  have HZ0 := Lib.hid (heap_alloc_new (w.alloc (.cells #[.int .i64 16, .int .i64 s] 24)) (.cells #[.bool false, .int .i64 0, .slice none 0 0] 58))
  have HZS := Lib.hid (show (w.alloc (.cells #[.int .i64 16, .int .i64 s] 24)).heap.size = w.heap.size + 1 by simp)
  rw [HZS.out] at HZ0
  have HR2 := Lib.hid (HROW.out _ HB0.out)
  have HS2 := Lib.hid (HSS.out _ HB0.out)
  have HD2 := Lib.hid ((own_two w (.int .i64 16) (.int .i64 s) 24).alloc (.cells #[.bool false, .int .i64 0, .slice none 0 0] 58))
  go_wp2_with (go_fit (HIN.out _); rintro e u ⟨rfl, rfl⟩)
  generalize (w.alloc (.cells #[.int .i64 16, .int .i64 s] 24)).alloc (.cells #[.bool false, .int .i64 0, .slice none 0 0] 58) = w2 at *
  have hu1 := u64_yes bb off n cap f 32 w2 (by omega) (by omega) HF.out HR2.out
  have hu2 := u64_yes bb off n cap f 40 w2 (by omega) (by omega) HF.out HR2.out
  rw [HI.out.idx] at hu1
  rw [HI.out.tab] at hu2
  have HU1 := Lib.hid hu1
  have HU2 := Lib.hid hu2
  have HP := Lib.hid (fun W : World => place_yes (some ⟨bb, off, none⟩) n cap x 4 W (by omega) hx0 (by omega) (by omega) (by omega))
  have HC := Lib.hid (callbacks_any (some ⟨bb, off, none⟩) n cap f b x cs w2 HF.out HS2.out HI.out)
  have q1 : IntKind.u64.wrap (b + x - b) = x := by rw [IntKind.wrap_u64]; omega
  have t0 := HD2.out.cell (i := 0) (by omega)
  simp only [if_pos] at t0
  clear hu1 hu2
  refine HU1.out.mono ?_
  rintro e u ⟨rfl, rfl⟩
  go_wp2_with (first | (go_fit (HP.out _); rintro e u ⟨rfl, rfl⟩))
  refine HU2.out.mono ?_
  rintro e u ⟨rfl, rfl⟩
  go_wp2_with fail
  refine HC.out.mono ?_
  rintro e w3 ⟨⟨L, c, rfl, hown⟩, hb3⟩
  have HZ3 := Lib.hid ((hb3.block _ (Array.getElem?_eq_some_iff.1 HZ0.out).1).trans HZ0.out)
  have HB3 := Lib.hid (HB0.out.trans (hb3.mono HB0.out.size))
  have HO3 := Lib.hid hown
  have HL3 := Lib.hid (Array.getElem?_eq_some_iff.1 HZ0.out).1
  clear t0 hown hb3
  go_wp2_with (refine wpList_store_row rfl 58 _ _ rfl (w.heap.size + 1) #[.bool true, .int .i64 x, .slice L cs.length c] rfl rfl 58 _ HZ3.out rfl rfl (by simp [Value.oneCell']) ?_)
  refine bodyPost_ret (v := .tuple #[.agg #[.bool true, .int .i64 x, .slice L cs.length c], .int .i64 0]) (results_cell_tmp rfl _ _ (w.heap.size + 1) 58 _ (0, 0) _ _ rfl rfl (setRow_heap _ _ _ _ _ _ HZ3.out) rfl rfl rfl) rfl ⟨⟨L, c, rfl, (HO3.out.sl intC_len).keep (by simp) fun b' hb' => setRow_other _ _ _ _ ?_⟩, below_setRow HB3.out (by omega) _⟩
  have h1 := (HO3.out.lt b' (by cases L with
    | none => simp at hb'
    | some a => simpa [Value.ownBlock] using hb')).1
  have h2 := HL3.out
  omega
end Go.Proofs.Ytcommphfjkggkaa
