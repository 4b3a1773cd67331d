/- package cpu: an instruction is fetched. -/
import Derived.Test.YthbgmlmcjnlopaaMchL
namespace Go.Proofs.Ythbgmlmcjnlopaa
open Go.ChangeShapes Go.WideShapes Go.ChangeAt Go.RowKit
set_option linter.unusedVariables false
set_option linter.unusedSimpArgs false
set_option maxRecDepth 100000

/-- More blocks that the memory has nothing of, behind an append. -/
theorem MemAt.moreG {R : Nat → Prop} {w w2 : World} {M m : Nat} {most : Int} {mp : Int → Option Pg} {row : Option Nat} (H : MemAt R w M m most mp) (hg : w.grownBy w2 row) (hr : ∀ k, row = some k → R k) :
    MemAt (fun k => R k ∨ (w.heap.size ≤ k ∧ k < w2.heap.size)) w2 M m most mp := by
  obtain ⟨bm, f, S, hRM, hRb, hRB, hR⟩ := H
  have hb : ∀ k, k < w.heap.size → ¬ R k → w2.heap[k]? = w.heap[k]? := fun k hk hn => hg.block k hk (fun e => hn (hr k e.symm))
  have hlt : ∀ a B, f a = some B → B < w.heap.size := fun a B h => by
    have hb := S.both a
    rw [h] at hb
    cases hm : mp a with
    | none => rw [hm] at hb; cases hb
    | some g' => exact (S.page a B g' h hm).1
  have kM := hb M S.mlt hRM
  refine ⟨bm, f, ⟨(World.cell?_of_block kM).trans S.c0, (World.cell?_of_block kM).trans S.c1, Nat.lt_of_lt_of_le S.mlt hg.size, S.map.of_block (hb bm S.map.lt hRb), S.both, fun a B g h1 h2 => (S.page a B g h1 h2).of_block (hb B (hlt a B h1) (hRB a B h1)) hg.size, S.inj, S.nos, S.low, S.high, S.fits⟩, ?_, ?_, fun a B hf => ?_, fun k hk => ?_⟩
  · have := S.mlt
    rintro (h | h)
    · exact hRM h
    · omega
  · have := S.map.lt
    rintro (h | h)
    · exact hRb h
    · omega
  · have := hlt a B hf
    rintro (h | h)
    · exact hRB a B hf h
    · omega
  · rcases hk with h | h
    · have := hR k h; have := hg.size; omega
    · exact h.2
theorem Kept.of_grown {R : Nat → Prop} {w w' : World} {row : Option Nat} (hg : w.grownBy w' row) (hR : ∀ k, R k → k < w.heap.size) (hr : ∀ k, row = some k → ¬ R k) : Kept R w w' :=
  ⟨hg.os, hg.tape, hg.output, hg.size, fun k hk => hg.block k (hR k hk) (fun e => hr k e.symm hk)⟩
/-- What a fetch leaves. -/
structure FetQ (R : Nat → Prop) (w : World) (C M m : Nat) (most : Int) (s : StV) (r : FeR) (e : Ending) (w' : World) : Prop where
  e : e = .returned (.tuple #[insV r.x, .int .i64 r.n, .int .i64 r.e])
  mem : MemAt R w' M m most r.mp
  kept : Kept (fun k => R k ∧ (r.flt = true → k ≠ C)) w w'
  cpu : r.flt = true → Own w' C 24 (cpuF M s r.k r.a)
def insA (x : InsV) : Array Value := #[.int .i64 x.op, .int .i64 x.a, .int .i64 x.b, .int .i64 x.alu, .int .i64 x.cc, .int .u64 x.imm, .int .i64 x.disp]
theorem ins_one (x : InsV) : (insA x).all (·.oneCell') = true := by simp [insA, Value.oneCell']
theorem ins_size (x : InsV) : (Try.prog.info? 27).map (·.size) = some (insA x).size := by kernel_rfl
theorem results_c2 {P : Program} {fn : Func} {p q r : Tmp} {ty : TypeId} (h : fn.results = #[.cell p ty, .tmp q, .tmp r]) (tmps : Array Value) (w : World) (g : Nat) (t : TypeId) (cs : Array Value) (fr : Nat × Nat) (d : TypeDesc) (v u : Value)
    (hp : tmps.getD p undef = .pointer (some ⟨g, 0, none⟩)) (hq : tmps.getD q undef = v) (hr : tmps.getD r undef = u) (hg : w.heap[g]? = some (.cells cs t fr))
    (hu : P.underlying ty = some d) (hd : (match d with | .struct _ | .array _ _ => true | _ => false) = true) (hi : (P.info? ty).map (·.size) = some cs.size) :
    (results fn tmps).run P w = .ok (.tuple #[.agg cs, v, u]) w := by
  have hp' : tmps[p]?.getD undef = .pointer (some ⟨g, 0, none⟩) := by simpa using hp
  have hq' : tmps[q]?.getD undef = v := by simpa using hq
  have hr' : tmps[r]?.getD undef = u := by simpa using hr
  simp [results, h, hp', hq', hr', asAddr, run_loadVar_row w g t ty cs fr d hg hu hd hi]
def nL (bs : List Nat) : List Int := bs.map fun (n : Nat) => (n : Int)
theorem nL_len (bs : List Nat) : (nL bs).length = bs.length := by simp [nL]
theorem nL_app (bs cs : List Nat) : nL (bs ++ cs) = nL bs ++ nL cs := by simp [nL]
theorem litF_nL (bs : List Nat) (i : Nat) : litF (nL bs) i = bF bs i := by
  unfold litF nL bF
  simp only [List.getD, List.getElem?_map]
  cases bs[i]? <;> rfl
def lenV : Value → Nat
  | .slice _ n _ => n
  | _ => 0
/-- What lasts while bytes are fetched. -/
structure FeL (R : Nat → Prop) (w wr : World) (C M m : Nat) (most : Int) (mp : Int → Option Pg) (s : StV) (fk fa : Int) (R1 : Nat → Prop) (T2 : Nat) (v : Value) (bs : List Nat) : Prop where
  sub : ∀ k, R k → R1 k
  mem : MemAt R1 wr M m most mp
  own : OwnBL wr (T2 + 1) v (nL bs)
  ob : ∀ k, v.ownBlock = some k → R1 k
  t2 : wr.heap[T2]? = some (.cells (insA ins0) 27 (0, 0))
  rT : R1 T2
  kept : Kept R w wr
  bn : Bn bs
  cpu : Own wr C 24 (cpuF M s fk fa)
  lt : T2 = w.heap.size

/-- What Fetch tells of one byte. -/
def FeO (R2 : Nat → Prop) (W : World) (M m : Nat) (most : Int) (mp' : Int → Option Pg) (k a : Int) (y : Nat) (e : Ending) (w' : World) : Prop :=
  ∃ vb, e = .returned (.tuple #[vb, .agg #[.int .i64 k, .int .u64 a]]) ∧ MemAt R2 w' M m most mp' ∧ Kept R2 W w' ∧ (k = 0 → ∃ g, vb = .slice (some ⟨g, 0, none⟩) 1 1 ∧ W.heap.size ≤ g ∧ Own w' g 1 (fun _ => .int .u8 y))
theorem fetch_one (R2 : Nat → Prop) (W : World) (M m : Nat) (most : Int) (mp : Int → Option Pg) (a : Int) (HO : MpOk mp) (h0 : 0 ≤ a) (h1 : a < 18446744073709551616) (hm : MemAt R2 W M m most mp) :
    Calls Try.prog 61 #[.pointer (some ⟨M, 0, none⟩), .int .u64 a, .int .i64 1] W fun e w' => FeO R2 W M m most (askM mp (askS mp 4 4 1 a 1)) (askS mp 4 4 1 a 1).1 (askS mp 4 4 1 a 1).2.1 (byteAt mp a).toNat e w' := by
  by_cases hf : (askS mp 4 4 1 a 1).1 = 0
  · have hin := HO.addr_in (need := 4) (kind := 4) (k := 1) h0 h1 (n := 1) (by omega) (by omega) (by omega) hf
    obtain ⟨_, q1, q2⟩ := askS_ok (mp := mp) (need := 4) (kind := 4) (by omega) 1 a 1 h0 (Int.le_refl _) hf
    refine (run_yes R2 W M m most mp a 1 h0 (by omega) (by omega) HO.prot hf hm).mono ?_
    rintro e w' ⟨g, hg, rfl, ho, hm', hk⟩
    refine ⟨_, by rw [hf, q2], ?_, hk, fun _ => ⟨g, rfl, hg, ho.congr fun i hi => ?_⟩⟩
    · unfold askM; rw [q1]; exact hm'.weaken (fun k hk => .inl hk)
    · obtain rfl : i = 0 := by omega
      have := HO.bytes a
      show Value.int .u8 (byteAt mp (a + ((0 : Nat) : Int))) = .int .u8 (((byteAt mp a).toNat : Nat) : Int)
      rw [show a + ((0 : Nat) : Int) = a by omega, Int.toNat_of_nonneg this.1]
  · refine (run_no R2 W M m most mp a 1 1 h0 (HO.addr h0 h1 (by omega)) (by omega) (by omega) (by omega) HO.prot hf hm).mono ?_
    rintro e w' ⟨rfl, hm', hk⟩
    exact ⟨_, rfl, hm', hk, fun h => absurd h hf⟩

set_option maxHeartbeats 8000000 in
theorem fetch_any (R : Nat → Prop) (w : World) (C M m : Nat) (most : Int) (mp : Int → Option Pg) (s : StV) (fk fa : Int) (HO : MpOk mp) (hip : 0 ≤ s.ip ∧ s.ip < 18446744073709551616) (hm : MemAt R w M m most mp) (hc : Own w C 24 (cpuF M s fk fa)) (hRC : R C) (FE : FeR) (hFE : fetchM mp s.ip 12 [] = FE) :
    Calls Try.prog 44 #[.pointer (some ⟨C, 0, none⟩)] w fun e w' => FetQ R w C M m most s FE e w' := by
  have HSZ := Lib.hid hm.sz
  have HOK := Lib.hid HO
  have HRC := Lib.hid hRC
  have HM := Lib.hid hm
  have HC := Lib.hid hc
  have HFE0 := Lib.hid hFE
  clear hm hc hRC HO hip hFE
  go_enter Try.func44, Try.ntmps44
  go_upto_region 1 with (fail)
  obtain ⟨T2, hT⟩ : ∃ T2, w.heap.size = T2 := ⟨_, rfl⟩
  obtain ⟨w1, hw1⟩ : ∃ w1, w.alloc (.cells #[.int .i64 0, .int .i64 0, .int .i64 0, .int .i64 0, .int .i64 0, .int .u64 0, .int .i64 0] 27) = w1 := ⟨_, rfl⟩
  have hl1 : w1.heap.size = T2 + 1 := by rw [← hw1, ← hT]; simp
  have HB1 := Lib.hid (show Below w.heap.size w (w1.alloc (.cells #[] 5)) from by rw [← hw1]; exact ((Below.refl _ _).alloc (Nat.le_refl _) _).alloc (by simp) _)
  have HX0 := Lib.hid (show FeL R w (w1.alloc (.cells #[] 5)) C M m most mp s fk fa (fun k => R k ∨ (w.heap.size ≤ k ∧ k < (w1.alloc (.cells #[] 5)).heap.size)) T2 (.slice (some ⟨T2 + 1, 0, none⟩) 0 0) [] from by
    have hk := Kept.of_below HB1.out (R := R) HSZ.out
    refine ⟨fun k hk => .inl hk, HM.out.more HB1.out, ?_, fun k hk => ?_, ?_, .inr ⟨by omega, by simp; omega⟩, hk, fun v hv => (nomatch hv), hk.own HC.out HRC.out, hT.symm⟩
    · have := OwnBL.made0 w1 (T2 + 1) (by omega)
      rw [hl1] at this
      exact this
    · have e : T2 + 1 = k := by injection hk
      subst e
      exact .inr ⟨by omega, by simp; omega⟩
    · have h1 : w1.heap[T2]? = some (.cells (insA ins0) 27 (0, 0)) := by rw [← hw1, ← hT]; exact heap_alloc_new w _
      exact (Below.heap_alloc w1 _ T2 (by omega)).trans h1)
  rw [hT]
  refine (congrArg _ hw1).mpr ?_
  clear hw1
  go_wp2
  try rw [hl1]
  clear hl1
  generalize w1.alloc (.cells #[] 5) = w2 at *
  go_loopw [5] (fun o wr => ∃ (bs : List Nat) (R1 : Nat → Prop), lenV o = bs.length ∧ bs.length ≤ 11 ∧ fetchM mp s.ip (12 - bs.length) bs = FE ∧ FeL R w wr C M m most mp s fk fa R1 T2 o bs) (fun o _ => 12 - lenV o)
  case atStart => exact ⟨[], _, rfl, by simp, HFE0.out, HX0.out⟩
  case round =>
    clear HX0
    obtain ⟨bs, R1, hlen, hl11, hfe, hx⟩ := hrel
    have HX := Lib.hid hx
    have HFE := Lib.hid hfe
    clear hfe hx
    obtain ⟨A, cap, rfl⟩ : ∃ A cap, u5 = .slice A bs.length cap := by
      have h := HX.out.own
      unfold OwnBL at h
      rw [nL_len] at h
      rcases h.2 with ⟨h1, h2⟩ | ⟨g, cap, cur, h1, _⟩
      · exact ⟨none, 0, by rw [h1, h2]⟩
      · exact ⟨_, cap, h1⟩
    clear hlen
    have HN := Lib.hid hl11
    have hwn : IntKind.u64.wrap (bs.length : Int) = bs.length := by rw [IntKind.wrap_u64]; omega
    have hwa : IntKind.u64.wrap (s.ip + (bs.length : Int)) = atI s.ip bs.length := by rw [IntKind.wrap_u64]; rfl
    have HAB := Lib.hid (atI_bd s.ip bs.length)
    have hfe := HFE.out
    obtain ⟨f, hf⟩ : ∃ f, 12 - bs.length = f + 1 := ⟨11 - bs.length, by omega⟩
    rw [hf] at hfe
    unfold fetchM at hfe
    generalize atI s.ip bs.length = at' at *
    obtain ⟨r, hr⟩ : ∃ r, askS mp 4 4 1 at' 1 = r := ⟨_, rfl⟩
    obtain ⟨y, hy⟩ : ∃ y, (byteAt mp at').toNat = y := ⟨_, rfl⟩
    have HY := Lib.hid (show y ≤ 255 from by have := HOK.out.bytes at'; omega)
    have HFO := Lib.hid (fun (R2 : Nat → Prop) (W : World) (hm : MemAt R2 W M m most mp) => fetch_one R2 W M m most mp at' HOK.out HAB.out.1 HAB.out.2 hm)
    have HAM := Lib.hid (show (askS mp 4 4 1 at' 1).1 = 0 → askM mp (askS mp 4 4 1 at' 1) = mp from fun h => by
      obtain ⟨_, q1, _⟩ := askS_ok (mp := mp) (need := 4) (kind := 4) (by omega) 1 at' 1 HAB.out.1 (Int.le_refl _) h
      unfold askM; rw [q1])
    rw [hr, hy] at HFO hfe
    rw [hr] at HAM
    obtain ⟨r1, r2, r3⟩ := r
    simp only at HFO hfe HAM
    replace HFE := Lib.hid hfe
    clear hfe hr hy
    have HG0 := Lib.hid (show Gd R1 R1 wr wr.drew M m most mp from (Gd.start HX.out.mem).drew)
    have HRC1 := Lib.hid (HX.out.sub C HRC.out)
    have HSZ1 := Lib.hid HX.out.mem.sz
    have HS := Lib.hid (show Own wr.drew C 24 (cpuF M s fk fa) from HX.out.cpu)
    have HR0 := Lib.hid trivial
    go_upto_region 2 with (fail)
    refine wp_region_noPanic ?_
    refine wp_region_K (fun W => Own W C 24 (cpuF M s fk fa)) (fun _ => True) 99 (by kernel_rfl) ?_
    refine wpAnyK_take (i := 0) (oi := ?_) (v := ?_) ?_ (by kernel_rfl) (by kernel_rfl) (by kernel_rfl) (fun _ _ _ h => h) (by decide) ?_ HS.out (fun _ => HR0.out) ?_
    rotate_left 2
    · (simp only [List.getElem?_toArray, List.getElem?_cons_succ, List.getElem?_cons_zero]; rfl)
    · (first | exact Or.inr ⟨by rfl, rfl⟩ | (refine Or.inl ⟨by rfl, ?_⟩; intro W hSw;  clear hSw; go_simp; try with_reducible rfl))
    try simp only [Act.put, List.setIfInBounds_toArray, List.set_cons_zero, List.set_cons_succ]
    refine wpAnyK_take (i := 1) (oi := ?_) (v := ?_) ?_ (by kernel_rfl) (by kernel_rfl) (by kernel_rfl) (fun _ _ _ h => h) (by decide) ?_ HS.out (fun _ => HR0.out) ?_
    rotate_left 2
    · (simp only [List.getElem?_toArray, List.getElem?_cons_succ, List.getElem?_cons_zero]; rfl)
    · (first | exact Or.inr ⟨by rfl, rfl⟩ | (refine Or.inl ⟨by rfl, ?_⟩; intro W hSw;  clear hSw; go_simp; try with_reducible rfl))
    try simp only [Act.put, List.setIfInBounds_toArray, List.set_cons_zero, List.set_cons_succ]
    refine wpAnyK_take (i := 2) (oi := ?_) (v := ?_) ?_ (by kernel_rfl) (by kernel_rfl) (by kernel_rfl) (fun _ _ _ h => h) (by decide) ?_ HS.out (fun _ => HR0.out) ?_
    rotate_left 2
    · (simp only [List.getElem?_toArray, List.getElem?_cons_succ, List.getElem?_cons_zero]; rfl)
    · (first | exact Or.inr ⟨by rfl, rfl⟩ | (refine Or.inl ⟨by rfl, ?_⟩; intro W hSw;  clear hSw; go_simp; try with_reducible rfl))
    try simp only [Act.put, List.setIfInBounds_toArray, List.set_cons_zero, List.set_cons_succ]
    refine wpAnyK_take (i := 3) (oi := ?_) (v := ?_) ?_ (by kernel_rfl) (by kernel_rfl) (by kernel_rfl) (fun _ _ _ h => h) (by decide) ?_ HS.out (fun _ => HR0.out) ?_
    rotate_left 2
    · (simp only [List.getElem?_toArray, List.getElem?_cons_succ, List.getElem?_cons_zero]; rfl)
    · (first | exact Or.inr ⟨by rfl, rfl⟩ | (refine Or.inl ⟨by rfl, ?_⟩; intro W hSw; have hq := cpu_mem (show Own W C 24 (cpuF M s fk fa) from hSw); clear hSw; go_simp; try with_reducible rfl))
    try simp only [Act.put, List.setIfInBounds_toArray, List.set_cons_zero, List.set_cons_succ]
    refine wpAnyK_take (i := 4) (oi := ?_) (v := ?_) ?_ (by kernel_rfl) (by kernel_rfl) (by kernel_rfl) (fun _ _ _ h => h) (by decide) ?_ HS.out (fun _ => HR0.out) ?_
    rotate_left 2
    · (simp only [List.getElem?_toArray, List.getElem?_cons_succ, List.getElem?_cons_zero]; rfl)
    · (first | exact Or.inr ⟨by rfl, rfl⟩ | (refine Or.inl ⟨by rfl, ?_⟩; intro W hSw;  clear hSw; go_simp; try with_reducible rfl))
    try simp only [Act.put, List.setIfInBounds_toArray, List.set_cons_zero, List.set_cons_succ]
    refine wpAnyK_take (i := 5) (oi := ?_) (v := ?_) ?_ (by kernel_rfl) (by kernel_rfl) (by kernel_rfl) (fun _ _ _ h => h) (by decide) ?_ HS.out (fun _ => HR0.out) ?_
    rotate_left 2
    · (simp only [List.getElem?_toArray, List.getElem?_cons_succ, List.getElem?_cons_zero]; rfl)
    · (first | exact Or.inr ⟨by rfl, rfl⟩ | (refine Or.inl ⟨by rfl, ?_⟩; intro W hSw;  clear hSw; go_simp; try with_reducible rfl))
    try simp only [Act.put, List.setIfInBounds_toArray, List.set_cons_zero, List.set_cons_succ]
    refine wpAnyK_take (i := 6) (oi := ?_) (v := ?_) ?_ (by kernel_rfl) (by kernel_rfl) (by kernel_rfl) (fun _ _ _ h => h) (by decide) ?_ HS.out (fun _ => HR0.out) ?_
    rotate_left 2
    · (simp only [List.getElem?_toArray, List.getElem?_cons_succ, List.getElem?_cons_zero]; rfl)
    · (first | exact Or.inr ⟨by rfl, rfl⟩ | (refine Or.inl ⟨by rfl, ?_⟩; intro W hSw;  clear hSw; go_simp; try with_reducible rfl))
    try simp only [Act.put, List.setIfInBounds_toArray, List.set_cons_zero, List.set_cons_succ]
    refine wpAnyK_take (i := 7) (oi := ?_) (v := ?_) ?_ (by kernel_rfl) (by kernel_rfl) (by kernel_rfl) (fun _ _ _ h => h) (by decide) ?_ HS.out (fun _ => HR0.out) ?_
    rotate_left 2
    · (simp only [List.getElem?_toArray, List.getElem?_cons_succ, List.getElem?_cons_zero]; rfl)
    · (first | exact Or.inr ⟨by rfl, rfl⟩ | (refine Or.inl ⟨by rfl, ?_⟩; intro W hSw;  clear hSw; go_simp; try with_reducible rfl))
    try simp only [Act.put, List.setIfInBounds_toArray, List.set_cons_zero, List.set_cons_succ]
    refine wpAnyK_take (i := 8) (oi := ?_) (v := ?_) ?_ (by kernel_rfl) (by kernel_rfl) (by kernel_rfl) (fun _ _ _ h => h) (by decide) ?_ HS.out (fun _ => HR0.out) ?_
    rotate_left 2
    · (simp only [List.getElem?_toArray, List.getElem?_cons_succ, List.getElem?_cons_zero]; rfl)
    · (first | exact Or.inr ⟨by rfl, rfl⟩ | (refine Or.inl ⟨by rfl, ?_⟩; intro W hSw; have hq : W.cell? ⟨C, 17, none⟩ = some (.int .u64 s.ip) := (show Own W C 24 (cpuF M s fk fa) from hSw).cell (i := 17) (by omega); clear hSw; go_simp; try with_reducible rfl))
    try simp only [Act.put, List.setIfInBounds_toArray, List.set_cons_zero, List.set_cons_succ]
    refine wpAnyK_take (i := 9) (oi := ?_) (v := ?_) ?_ (by kernel_rfl) (by kernel_rfl) (by kernel_rfl) (fun _ _ _ h => h) (by decide) ?_ HS.out (fun _ => HR0.out) ?_
    rotate_left 2
    · (simp only [List.getElem?_toArray, List.getElem?_cons_succ, List.getElem?_cons_zero]; rfl)
    · (first | exact Or.inr ⟨by rfl, rfl⟩ | (refine Or.inl ⟨by rfl, ?_⟩; intro W hSw;  clear hSw; go_simp; try with_reducible rfl))
    try simp only [Act.put, List.setIfInBounds_toArray, List.set_cons_zero, List.set_cons_succ]
    refine wpAnyK_take (i := 10) (oi := ?_) (v := ?_) ?_ (by kernel_rfl) (by kernel_rfl) (by kernel_rfl) (fun _ _ _ h => h) (by decide) ?_ HS.out (fun _ => HR0.out) ?_
    rotate_left 2
    · (simp only [List.getElem?_toArray, List.getElem?_cons_succ, List.getElem?_cons_zero]; rfl)
    · (first | exact Or.inr ⟨by rfl, rfl⟩ | (refine Or.inl ⟨by rfl, ?_⟩; intro W hSw;  clear hSw; go_simp; try with_reducible rfl))
    try simp only [Act.put, List.setIfInBounds_toArray, List.set_cons_zero, List.set_cons_succ]
    refine wpAnyK_take (i := 11) (oi := ?_) (v := ?_) ?_ (by kernel_rfl) (by kernel_rfl) (by kernel_rfl) (fun _ _ _ h => h) (by decide) ?_ HS.out (fun _ => HR0.out) ?_
    rotate_left 2
    · (simp only [List.getElem?_toArray, List.getElem?_cons_succ, List.getElem?_cons_zero]; rfl)
    · (first | exact Or.inr ⟨by rfl, rfl⟩ | (refine Or.inl ⟨by rfl, ?_⟩; intro W hSw;  clear hSw; go_simp; try with_reducible rfl))
    try simp only [Act.put, List.setIfInBounds_toArray, List.set_cons_zero, List.set_cons_succ]
    refine wpAnyK_take (i := 12) (oi := ?_) (v := ?_) ?_ (by kernel_rfl) (by kernel_rfl) (by kernel_rfl) (fun _ _ _ h => h) (by decide) ?_ HS.out (fun _ => HR0.out) ?_
    rotate_left 2
    · (simp only [List.getElem?_toArray, List.getElem?_cons_succ, List.getElem?_cons_zero]; rfl)
    · (first | exact Or.inr ⟨by rfl, rfl⟩ | (refine Or.inl ⟨by rfl, ?_⟩; intro W hSw;  clear hSw; go_simp; try with_reducible rfl))
    try simp only [Act.put, List.setIfInBounds_toArray, List.set_cons_zero, List.set_cons_succ]
    refine wpAnyK_two (i := 13) (j := 17) (o := ?_) (o2 := ?_) (by kernel_rfl) ?_ ?_ (fun K hK => ?callA) (fun K hK => ?allocA)
    rotate_left 2
    · (simp only [List.getElem?_toArray, List.getElem?_cons_succ, List.getElem?_cons_zero]; rfl)
    · (simp only [List.getElem?_toArray, List.getElem?_cons_succ, List.getElem?_cons_zero]; rfl)
    case' callA =>
      go_simp
      go_at_call 61
      refine (HFO.out _ wr.drew (HX.out.mem.drewN 1)).mono ?_
      rintro e w2 ⟨vb, rfl, hm2, hk2, hg2⟩
      have HG2 := Lib.hid (HG0.out.turned hm2 hk2)
      have HKW := Lib.hid hk2
      have HS2 := Lib.hid (show Own w2 C 24 (cpuF M s fk fa) from HG2.out.kept.own HX.out.cpu HRC1.out)
      have HV2 := Lib.hid hg2
      clear hm2 hk2 hg2
      refine hK.out _ _ HS2.out (fun _ => trivial) ?_
      clear hK K
      try simp only [Act.put, List.setIfInBounds_toArray, List.set_cons_zero, List.set_cons_succ]
      refine wpAnyK_take (i := 14) (oi := ?_) (v := ?_) ?_ (by kernel_rfl) (by kernel_rfl) (by kernel_rfl) (fun _ _ _ h => h) (by decide) ?_ HS2.out (fun _ => HR0.out) ?_
      rotate_left 2
      · (simp only [List.getElem?_toArray, List.getElem?_cons_succ, List.getElem?_cons_zero]; rfl)
      · (first | exact Or.inr ⟨by rfl, rfl⟩ | (refine Or.inl ⟨by rfl, ?_⟩; intro W hSw;  clear hSw; go_simp; try with_reducible rfl))
      try simp only [Act.put, List.setIfInBounds_toArray, List.set_cons_zero, List.set_cons_succ]
      refine wpAnyK_take (i := 15) (oi := ?_) (v := ?_) ?_ (by kernel_rfl) (by kernel_rfl) (by kernel_rfl) (fun _ _ _ h => h) (by decide) ?_ HS2.out (fun _ => HR0.out) ?_
      rotate_left 2
      · (simp only [List.getElem?_toArray, List.getElem?_cons_succ, List.getElem?_cons_zero]; rfl)
      · (first | exact Or.inr ⟨by rfl, rfl⟩ | (refine Or.inl ⟨by rfl, ?_⟩; intro W hSw;  clear hSw; go_simp; try with_reducible rfl))
      try simp only [Act.put, List.setIfInBounds_toArray, List.set_cons_zero, List.set_cons_succ]
      refine wpAnyK_take (i := 16) (oi := ?_) (v := ?_) ?_ (by kernel_rfl) (by kernel_rfl) (by kernel_rfl) (fun _ _ _ h => h) (by decide) ?_ HS2.out (fun _ => HR0.out) ?_
      rotate_left 2
      · (simp only [List.getElem?_toArray, List.getElem?_cons_succ, List.getElem?_cons_zero]; rfl)
      · (first | exact Or.inr ⟨by rfl, rfl⟩ | (refine Or.inl ⟨by rfl, ?_⟩; intro W hSw;  clear hSw; go_simp; try with_reducible rfl))
      try simp only [Act.put, List.setIfInBounds_toArray, List.set_cons_zero, List.set_cons_succ]
      refine wpAnyK_one (i := 17) (o := ?_) (by kernel_rfl) ?_ (fun K hK => ?_)
      rotate_left 1
      · (simp only [List.getElem?_toArray, List.getElem?_cons_succ, List.getElem?_cons_zero]; rfl)
      go_simp
      have HG3 := Lib.hid (HG2.out.below ((Below.refl _ _).alloc (Nat.le_refl _) (.cells #[.int .i64 0, .int .u64 0] 57)))
      have HS3 := Lib.hid (show Own (w2.alloc (.cells #[.int .i64 0, .int .u64 0] 57)) C 24 (cpuF M s fk fa) from HG3.out.kept.own HX.out.cpu HRC1.out)
      have HV3 := Lib.hid (show r1 = 0 → ∃ g, vb = .slice (some ⟨g, 0, none⟩) 1 1 ∧ wr.heap.size ≤ g ∧ g ≠ w2.heap.size ∧ Own (w2.alloc (.cells #[.int .i64 0, .int .u64 0] 57)) g 1 (fun _ => .int .u8 y) from fun h => by
        obtain ⟨g, q1, q2, q3⟩ := HV2.out h
        exact ⟨g, q1, q2, by have := q3.1; omega, q3.alloc _⟩)
      have HFIN := Lib.hid (show FinB R1 wr (w2.alloc (.cells #[.int .i64 0, .int .u64 0] 57)) M m most (askM mp (r1, r2, r3)) w2.heap.size from ⟨_, HG3.out, .inr ⟨Nat.le_refl _, by simp⟩, fun h => Nat.lt_irrefl _ (Nat.lt_of_lt_of_le (HSZ1.out _ h) HG2.out.kept.size), heap_alloc_new w2 (.cells #[.int .i64 0, .int .u64 0] 57)⟩)
      clear HV2
      refine hK.out _ _ HS3.out (fun _ => trivial) ?_
      clear hK K
      try simp only [Act.put, List.setIfInBounds_toArray, List.set_cons_zero, List.set_cons_succ]
      refine wpAnyK_take (i := 18) (oi := ?_) (v := ?_) ?_ (by kernel_rfl) (by kernel_rfl) (by kernel_rfl) (fun _ _ _ h => h) (by decide) ?_ HS3.out (fun _ => HR0.out) ?_
      rotate_left 2
      · (simp only [List.getElem?_toArray, List.getElem?_cons_succ, List.getElem?_cons_zero]; rfl)
      · (first | exact Or.inr ⟨by rfl, rfl⟩ | (refine Or.inl ⟨by rfl, ?_⟩; intro W hSw;  clear hSw; go_simp; try with_reducible rfl))
      try simp only [Act.put, List.setIfInBounds_toArray, List.set_cons_zero, List.set_cons_succ]
      generalize w2.alloc (.cells #[.int .i64 0, .int .u64 0] 57) = w3 at *
      generalize w2.heap.size = b10 at *
    case' allocA =>
      go_simp
      obtain ⟨R2, hg1, hr1⟩ : ∃ R2, Gd R1 R2 wr (wr.alloc (.cells #[.int .i64 0, .int .u64 0] 57)).drew M m most mp ∧ R2 wr.heap.size := ⟨_, ((Gd.start HX.out.mem).below ((Below.refl _ _).alloc (Nat.le_refl _) (.cells #[.int .i64 0, .int .u64 0] 57))).drew, .inr ⟨Nat.le_refl _, by simp⟩⟩
      have HG1 := Lib.hid hg1
      have HR1 := Lib.hid hr1
      have HS1 := Lib.hid (show Own (wr.alloc (.cells #[.int .i64 0, .int .u64 0] 57)).drew C 24 (cpuF M s fk fa) from hg1.kept.own HX.out.cpu HRC1.out)
      have HZ1 := Lib.hid (show (wr.alloc (.cells #[.int .i64 0, .int .u64 0] 57)).drew.heap[wr.heap.size]? = _ from heap_alloc_new wr (.cells #[.int .i64 0, .int .u64 0] 57))
      have HN1 := Lib.hid (show wr.heap.size < (wr.alloc (.cells #[.int .i64 0, .int .u64 0] 57)).drew.heap.size from by simp)
      have HNR := Lib.hid (fun (h : R1 wr.heap.size) => Nat.lt_irrefl _ (HSZ1.out _ h))
      have HBW := Lib.hid (Nat.le_refl wr.heap.size)
      clear hg1 hr1
      refine hK.out _ _ HS1.out (fun _ => trivial) ?_
      clear hK K
      try simp only [Act.put, List.setIfInBounds_toArray, List.set_cons_zero, List.set_cons_succ]
      generalize (wr.alloc (.cells #[.int .i64 0, .int .u64 0] 57)).drew = w1 at *
      obtain ⟨b10, hb10⟩ : ∃ q, wr.heap.size = q := ⟨_, rfl⟩
      rw [hb10] at HR1 HZ1 HN1 HNR
      try rw [hb10]
      have HB10 := Lib.hid hb10
      clear hb10
      refine wpAnyK_one (i := 13) (o := ?_) (by kernel_rfl) ?_ (fun K hK => ?_)
      rotate_left 1
      · (simp only [List.getElem?_toArray, List.getElem?_cons_succ, List.getElem?_cons_zero]; rfl)
      go_simp
      go_at_call 61
      refine (HFO.out _ w1 HG1.out.mem).mono ?_
      rintro e w3 ⟨vb, rfl, hm2, hk2, hg2⟩
      have HG3 := Lib.hid (HG1.out.turned hm2 hk2)
      have HKW := Lib.hid hk2
      have HS3 := Lib.hid (show Own w3 C 24 (cpuF M s fk fa) from HG3.out.kept.own HX.out.cpu HRC1.out)
      have HV2 := Lib.hid hg2
      clear hm2 hk2 hg2
      refine hK.out _ _ HS3.out (fun _ => trivial) ?_
      clear hK K
      try simp only [Act.put, List.setIfInBounds_toArray, List.set_cons_zero, List.set_cons_succ]
      have HV3 := Lib.hid (show r1 = 0 → ∃ g, vb = .slice (some ⟨g, 0, none⟩) 1 1 ∧ wr.heap.size ≤ g ∧ g ≠ b10 ∧ Own w3 g 1 (fun _ => .int .u8 y) from fun h => by
        obtain ⟨g, q1, q2, q3⟩ := HV2.out h
        exact ⟨g, q1, by have := HN1.out; have := HB10.out; omega, by have := HN1.out; omega, q3⟩)
      have HFIN := Lib.hid (show FinB R1 wr w3 M m most (askM mp (r1, r2, r3)) b10 from ⟨_, HG3.out, HR1.out, HNR.out, (HKW.out.block _ HR1.out).trans HZ1.out⟩)
      refine wpAnyK_take (i := 14) (oi := ?_) (v := ?_) ?_ (by kernel_rfl) (by kernel_rfl) (by kernel_rfl) (fun _ _ _ h => h) (by decide) ?_ HS3.out (fun _ => HR0.out) ?_
      rotate_left 2
      · (simp only [List.getElem?_toArray, List.getElem?_cons_succ, List.getElem?_cons_zero]; rfl)
      · (first | exact Or.inr ⟨by rfl, rfl⟩ | (refine Or.inl ⟨by rfl, ?_⟩; intro W hSw;  clear hSw; go_simp; try with_reducible rfl))
      try simp only [Act.put, List.setIfInBounds_toArray, List.set_cons_zero, List.set_cons_succ]
      refine wpAnyK_take (i := 15) (oi := ?_) (v := ?_) ?_ (by kernel_rfl) (by kernel_rfl) (by kernel_rfl) (fun _ _ _ h => h) (by decide) ?_ HS3.out (fun _ => HR0.out) ?_
      rotate_left 2
      · (simp only [List.getElem?_toArray, List.getElem?_cons_succ, List.getElem?_cons_zero]; rfl)
      · (first | exact Or.inr ⟨by rfl, rfl⟩ | (refine Or.inl ⟨by rfl, ?_⟩; intro W hSw;  clear hSw; go_simp; try with_reducible rfl))
      try simp only [Act.put, List.setIfInBounds_toArray, List.set_cons_zero, List.set_cons_succ]
      refine wpAnyK_take (i := 16) (oi := ?_) (v := ?_) ?_ (by kernel_rfl) (by kernel_rfl) (by kernel_rfl) (fun _ _ _ h => h) (by decide) ?_ HS3.out (fun _ => HR0.out) ?_
      rotate_left 2
      · (simp only [List.getElem?_toArray, List.getElem?_cons_succ, List.getElem?_cons_zero]; rfl)
      · (first | exact Or.inr ⟨by rfl, rfl⟩ | (refine Or.inl ⟨by rfl, ?_⟩; intro W hSw;  clear hSw; go_simp; try with_reducible rfl))
      try simp only [Act.put, List.setIfInBounds_toArray, List.set_cons_zero, List.set_cons_succ]
      refine wpAnyK_take (i := 18) (oi := ?_) (v := ?_) ?_ (by kernel_rfl) (by kernel_rfl) (by kernel_rfl) (fun _ _ _ h => h) (by decide) ?_ HS3.out (fun _ => HR0.out) ?_
      rotate_left 2
      · (simp only [List.getElem?_toArray, List.getElem?_cons_succ, List.getElem?_cons_zero]; rfl)
      · (first | exact Or.inr ⟨by rfl, rfl⟩ | (refine Or.inl ⟨by rfl, ?_⟩; intro W hSw;  clear hSw; go_simp; try with_reducible rfl))
      try simp only [Act.put, List.setIfInBounds_toArray, List.set_cons_zero, List.set_cons_succ]
    all_goals
      obtain ⟨R3, hg3, hb3, hnb, hz3⟩ := HFIN.out
      refine wpAnyK_one (i := 19) (o := ?_) (by kernel_rfl) ?_ (fun K hK => ?_)
      rotate_left 1
      · (simp only [List.getElem?_toArray, List.getElem?_cons_succ, List.getElem?_cons_zero]; rfl)
      refine step_store_row' rfl 57 _ _ rfl b10 #[.int .i64 r1, .int .u64 r2] ?_ ?_ 57 #[.int .i64 0, .int .u64 0] hz3 (by kernel_rfl) rfl (by simp [Value.oneCell']) ?_
      · first | rfl | simp [Act.eval]
      · first | rfl | simp [Act.eval]
      have hg4 := hg3.written (W' := w3.setRow b10 #[.int .i64 r1, .int .u64 r2]) hb3 hnb ⟨rfl, rfl, rfl, by simp [World.setRow]⟩ (fun q hq => setRow_other _ _ q _ hq)
      have HG4 := Lib.hid hg4
      have HS4 := Lib.hid (show Own (w3.setRow b10 #[.int .i64 r1, .int .u64 r2]) C 24 (cpuF M s fk fa) from hg4.kept.own HX.out.cpu HRC1.out)
      have HZ4 := Lib.hid (row_set (cells := #[.int .i64 r1, .int .u64 r2]) hz3)
      have HV4 := Lib.hid (show r1 = 0 → ∃ g, vb = .slice (some ⟨g, 0, none⟩) 1 1 ∧ Own (w3.setRow b10 #[.int .i64 r1, .int .u64 r2]) g 1 (fun _ => .int .u8 y) from fun h => by
        obtain ⟨g, q1, q2, q3, q4⟩ := HV3.out h
        exact ⟨g, q1, q4.of_block (setRow_other _ _ g _ q3) (by simp [World.setRow])⟩)
      clear hg3 hg4 hz3 hb3 hnb
      refine hK.out _ _ HS4.out (fun _ => trivial) ?_
      clear hK K
      try simp only [Act.put, List.setIfInBounds_toArray, List.set_cons_zero, List.set_cons_succ]
      refine wpAnyK_done (by kernel_rfl) ?_ _
      refine NoPanic.normal ?_
      have c0 : (w3.setRow b10 #[.int .i64 r1, .int .u64 r2]).cell? ⟨b10, 0, none⟩ = some (.int .i64 r1) := by rw [cell_of_row' HZ4.out]; rfl
      have c1 : (w3.setRow b10 #[.int .i64 r1, .int .u64 r2]).cell? ⟨b10, 1, none⟩ = some (.int .u64 r2) := by rw [cell_of_row' HZ4.out]; rfl
      clear HZ4
      generalize w3.setRow b10 #[.int .i64 r1, .int .u64 r2] = w4 at *
      have HT4 := Lib.hid (show w4.heap[T2]? = some (.cells (insA ins0) 27 (0, 0)) from (HG4.out.kept.block T2 HX.out.rT).trans HX.out.t2)
      have HSUB := Lib.hid (fun k (hk : R k) => HG4.out.sub k (HX.out.sub k hk))
      have HKW4 := Lib.hid (show Kept R w w4 from HX.out.kept.trans (HG4.out.kept.mono HX.out.sub))
      have HTC := Lib.hid (show T2 ≠ C from by have h1 := HX.out.lt; have h2 := HSZ.out C HRC.out; omega)
      have HWS := Lib.hid (show w.heap.size ≤ w4.heap.size from HKW4.out.size)
      by_cases hk0 : r1 = 0
      · subst hk0
        obtain ⟨g, rfl, hog⟩ := HV4.out rfl
        have hmp := HAM.out rfl
        have hfe := HFE.out
        rw [if_pos rfl] at hfe
        rw [hmp] at HG4
        replace HFE := Lib.hid hfe
        have HO4 := Lib.hid (show OwnBL w4 (T2 + 1) (.slice A bs.length cap) (nL bs) from HX.out.own.of_block (fun k hk => HG4.out.kept.block k (HX.out.ob k hk)))
        have hsl : SlB w4 (some ⟨g, 0, none⟩) 1 (bF [y]) := .inr ⟨g, 0, rfl, hog.1, fun i hi => by
          obtain rfl : i = 0 := by omega
          exact hog.cell (i := 0) (by omega)⟩
        have HSRC := Lib.hid (src_bl (c := 1) (cs := nL [y]) hsl (by rw [nL_len]; rfl) (fun i _ => (litF_nL _ i).symm))
        have HBN := Lib.hid (show Bn (bs ++ [y]) from fun v hv => by
          rcases List.mem_append.mp hv with h | h
          · exact HX.out.bn v h
          · rw [List.mem_singleton] at h; subst h; exact HY.out)
        have HLT := Lib.hid HX.out.lt
        clear hmp hfe hog hsl HV4 HFO HAM
        go_upto_region 6 with (fail)
        clear c0 c1
        have HLE := Lib.hid (show (nL bs).length + (nL [y]).length ≤ 140737488355328 from by have := HN.out; rw [nL_len, nL_len]; show bs.length + 1 ≤ _; omega)
        have HBS := Lib.hid (show T2 + 1 ≤ w4.heap.size from by have h2 := lt_of_row' HT4.out; omega)
        go_wp2_with (at_builtin; refine wpList_appBL rfl (.tmp 37) (.tmp 38) 24 rfl (T2 + 1) _ (nL bs) rfl HO4.out _ rfl (nL [y]) HSRC.out HLE.out HBS.out ?_; intro A5 cap5 w5 hown5 hg5 hat5; have HO5 := Lib.hid hown5; have HG5 := Lib.hid hg5; have HAT5 := Lib.hid hat5; clear hown5 hg5 hat5)
        have hle : (nL bs).length + (nL [y]).length = (bs ++ [y]).length := by rw [nL_len, nL_len, List.length_append]
        have ho5 := HO5.out
        have hg5 := HG5.out
        have hat5 := HAT5.out
        rw [← nL_app] at ho5
        rw [hle] at ho5 hat5 ⊢
        have HLB := Lib.hid (show (bs ++ [y]).length = bs.length + 1 from by simp)
        obtain ⟨B2, hB2⟩ : ∃ B2, bs ++ [y] = B2 := ⟨_, rfl⟩
        rw [hB2] at ho5 hat5 HLB HBN HFE ⊢
        have hsl5 := ho5.slice
        obtain ⟨g5, rfl⟩ : ∃ g5, A5 = some ⟨g5, 0, none⟩ := by
          rcases hsl5.2.2.2.2 with h | ⟨g5, h, _⟩
          · have := HLB.out; omega
          · exact ⟨g5, h⟩
        have hslb : SlB w5 (some ⟨g5, 0, none⟩) B2.length (bF B2) := hsl5.2.2.2.1.congr (fun i _ => litF_nL _ i)
        have hown : (Value.slice (some ⟨g5, 0, none⟩) B2.length cap5).ownBlock = some g5 := rfl
        rw [hown] at hat5
        have hg5lt : g5 < w5.heap.size ∧ T2 + 1 ≤ g5 := ⟨(ho5.lt g5 rfl).2, (ho5.lt g5 rfl).1⟩
        obtain ⟨R5, hR5⟩ : ∃ R5, R5 = fun k => R3 k ∨ (w4.heap.size ≤ k ∧ k < w5.heap.size) := ⟨_, rfl⟩
        have HM5 := Lib.hid (show MemAt R5 w5 M m most mp from by rw [hR5]; exact HG4.out.mem.moreG hg5 (fun k hk => HG4.out.sub k (HX.out.ob k hk)))
        have HG5R := Lib.hid (show R5 g5 from by
          rw [hR5]
          rcases hat5 with h | h
          · exact .inl (HG4.out.sub _ (HX.out.ob _ h.symm))
          · injection h with h
            exact .inr ⟨by omega, hg5lt.1⟩)
        have HSUB5 := Lib.hid (show ∀ k, R k → R5 k from fun k hk => by rw [hR5]; exact .inl (HSUB.out k hk))
        have HRT5 := Lib.hid (show R5 T2 from by rw [hR5]; exact .inl (HG4.out.sub _ HX.out.rT))
        have hobT : ∀ k, (Value.slice A bs.length cap).ownBlock = some k → T2 + 1 ≤ k := fun k hk => (HO4.out.lt k hk).1
        have HT5 := Lib.hid (show w5.heap[T2]? = some (.cells (insA ins0) 27 (0, 0)) from (hg5.block T2 (lt_of_row' HT4.out) (fun e => by have := hobT T2 e.symm; omega)).trans HT4.out)
        have HK5 := Lib.hid (show Kept R w w5 from HKW4.out.trans (Kept.of_grown hg5 (fun k hk => Nat.lt_of_lt_of_le (HSZ.out k hk) HWS.out) (fun k hk h => by have h1 := hobT k hk; have h2 := HSZ.out k h; have h3 := HLT.out; omega)))
        have HO5' := Lib.hid ho5
        have HCP := Lib.hid (And.intro hsl5.2.1 hsl5.2.2.1)
        have HD := Lib.hid (show Calls Try.prog 62 #[.slice (some ⟨g5, 0, none⟩) B2.length cap5] w5 fun e w' => e = .returned (.tuple #[insV (decodeM forms 16 B2).x, .int .i64 (decodeM forms 16 B2).n, .int .i64 (decodeM forms 16 B2).fit]) ∧ Below w5.heap.size w5 w' from decode_any g5 0 B2 cap5 w5 HBN.out hsl5.2.1 (by have := hsl5.2.2.1; unfold maxLen at this; omega) hslb)
        have HDB := Lib.hid (decode_bd B2 HBN.out)
        clear ho5 hg5 hat5 hsl5 hslb hown hg5lt hobT HO5 HG5 HAT5 hle hR5 HO4 HSRC HLE HBS hB2
        obtain ⟨d, hd⟩ : ∃ d, decodeM forms 16 B2 = d := ⟨_, rfl⟩
        rw [hd] at HD HDB
        have hfe := HFE.out
        rw [hd] at hfe
        replace HFE := Lib.hid hfe
        clear hfe hd
        obtain ⟨⟨xo, xa, xb, xl, xc, xi, xd⟩, dn, dfit⟩ := d
        simp only [insV] at HD
        go_wp2_with fail
        refine HD.out.mono ?_
        rintro e w6 ⟨rfl, hb6⟩
        have HB6 := Lib.hid hb6
        clear hb6 HD
        go_upto_region 8 with (fail)
        obtain ⟨w7, hw7⟩ : ∃ w7, w6.alloc (.cells #[.int .i64 xo, .int .i64 xa, .int .i64 xb, .int .i64 xl, .int .i64 xc, .int .u64 xi, .int .i64 xd] 27) = w7 := ⟨_, rfl⟩
        obtain ⟨g7, hg7⟩ : ∃ g7, w6.heap.size = g7 := ⟨_, rfl⟩
        have HB7 := Lib.hid (show Below w5.heap.size w5 w7 from by rw [← hw7]; exact HB6.out.alloc HB6.out.size _)
        have HZ7 := Lib.hid (show w7.heap[g7]? = some (.cells (insA ⟨xo, xa, xb, xl, xc, xi, xd⟩) 27 (0, 0)) from by rw [← hw7, ← hg7]; exact heap_alloc_new w6 _)
        refine (congrArg _ hw7).mpr ?_
        try rw [hg7]
        clear hw7 hg7 HB6
        by_cases hf2 : dfit = 2
        · subst hf2
          have hfe := HFE.out
          rw [if_pos rfl] at hfe
          have hlen2 : B2.length < 11 := by
            rcases HDB.out.2 with h | h | h
            · exact absurd h.1 (by simp)
            · exact h.2
            · exact absurd h (by simp)
          have hfu : 12 - B2.length = f := by have := HLB.out; omega
          rw [← hfu] at hfe
          have HFE2 := Lib.hid hfe
          have HX7 := Lib.hid (show FeL R w w7 C M m most mp s fk fa R5 T2 (.slice (some ⟨g5, 0, none⟩) B2.length cap5) B2 from
            ⟨HSUB5.out, HM5.out.below HB7.out, HO5'.out.below HB7.out, fun k hk => by injection hk with hk; rw [← hk]; exact HG5R.out, (HB7.out.block T2 (lt_of_row' HT5.out)).trans HT5.out, HRT5.out,
              HK5.out.trans (Kept.of_below HB7.out (fun k hk => HM5.out.sz k (HSUB5.out k hk))), HBN.out, (HK5.out.trans (Kept.of_below HB7.out (fun k hk => HM5.out.sz k (HSUB5.out k hk)))).own HC.out HRC.out, HLT.out⟩)
          have HL2 := Lib.hid hlen2
          have HLB2 := Lib.hid hfu
          clear hfe hfu hlen2
          go_wp2_with fail
          go_roundw
          case rel => exact ⟨B2, R5, rfl, by have := HL2.out; omega, HFE2.out, HX7.out⟩
          case measure => have := HLB.out; have := HN.out; simp only [lenV]; omega
        · have hfe := HFE.out
          rw [if_neg hf2] at hfe
          have HFE2 := Lib.hid hfe
          have hb : ((dfit : Int) == 2) = false := beq_eq_false_iff_ne.mpr (by omega)
          clear hfe hf2
          have HT7 := Lib.hid ((HB7.out.block T2 (lt_of_row' HT5.out)).trans HT5.out)
          have HM7 := Lib.hid ((HM5.out.below HB7.out))
          have HK7 := Lib.hid (HK5.out.trans (Kept.of_below HB7.out (fun k hk => HM5.out.sz k (HSUB5.out k hk))))
          have HRT := Lib.hid (show ¬ R T2 from fun h => by have h1 := HLT.out; have h2 := HSZ.out T2 h; omega)
          go_wp2_with (first | (refine wpList_load_row rfl 27 _ rfl g7 rfl 27 (insA ⟨xo, xa, xb, xl, xc, xi, xd⟩) (0, 0) _ HZ7.out Try.underlying27 rfl (ins_size _) ?_) | (refine wpList_store_row rfl 27 _ _ rfl T2 (insA ⟨xo, xa, xb, xl, xc, xi, xd⟩) rfl rfl 27 (insA ins0) HT7.out (ins_size _) rfl (ins_one _) ?_))
          have HT8 := row_set (cells := insA ⟨xo, xa, xb, xl, xc, xi, xd⟩) HT7.out
          refine bodyPost_ret (v := .tuple #[.agg (insA ⟨xo, xa, xb, xl, xc, xi, xd⟩), .int .i64 dn, .int .i64 dfit]) (results_c2 rfl _ _ T2 27 (insA ⟨xo, xa, xb, xl, xc, xi, xd⟩) (0, 0) _ _ _ rfl rfl rfl HT8 Try.underlying27 rfl (ins_size _)) rfl ?_
          rw [← HFE2.out]
          exact ⟨rfl, (HM7.out.kept (by simp [World.setRow]) (fun k _ hr => setRow_other _ _ k _ (fun e => hr (by rw [e]; exact HRT5.out)))).weaken HSUB5.out, (HK7.out.mono (fun k hk => hk.1)).trans ⟨rfl, rfl, rfl, by simp [World.setRow], fun k hk => setRow_other _ _ k _ (fun e => HRT.out (by rw [← e]; exact hk.1))⟩, fun h => absurd h (by simp)⟩
      · have hb : (r1 == 0) = false := by simpa using hk0
        have hfe := HFE.out
        rw [if_neg hk0] at hfe
        replace HFE := Lib.hid hfe
        have c22 := HS4.out.cell (i := 22) (by omega)
        have c23 := HS4.out.cell (i := 23) (by omega)
        have f22 := HS4.out.frozen (i := 22) (by omega)
        have f23 := HS4.out.frozen (i := 23) (by omega)
        simp only [cpuF] at c22 c23
        have HC5 := Lib.hid (cpu_fault HS4.out r1 r2)
        have HM5R := Lib.hid ((HG4.out.mem.setFar (o := 22) (HSUB.out C HRC.out) (.int .i64 r1)).setFar (o := 23) (HSUB.out C HRC.out) (.int .u64 r2))
        have HRT3 := Lib.hid (HG4.out.sub T2 HX.out.rT)
        have HK5 := Lib.hid (show Kept (fun k => R k ∧ k ≠ C) w ((w4.setCell ⟨C, 22, none⟩ (.int .i64 r1)).setCell ⟨C, 23, none⟩ (.int .u64 r2)) from (((HKW4.out.mono (fun k hk => hk.1)).setCell (fun h => h.2 rfl) _).setCell (fun h => h.2 rfl) _))
        have HT5 := Lib.hid (show ((w4.setCell ⟨C, 22, none⟩ (.int .i64 r1)).setCell ⟨C, 23, none⟩ (.int .u64 r2)).heap[T2]? = some (.cells (insA ins0) 27 (0, 0)) from ((Below.heap_setCell _ ⟨C, 23, none⟩ _ T2 HTC.out).trans (Below.heap_setCell _ ⟨C, 22, none⟩ _ T2 HTC.out)).trans HT4.out)
        have HRT := Lib.hid (show ¬ R T2 from fun h => by have h1 := HX.out.lt; have h2 := HSZ.out T2 h; omega)
        clear hfe hk0 HV4 HFO HAM
        go_upto_region 5 with (fail)
        generalize (w4.setCell ⟨C, 22, none⟩ (.int .i64 r1)).setCell ⟨C, 23, none⟩ (.int .u64 r2) = w5 at *
        clear c0 c1 c22 c23 f22 f23 hb
        go_wp2_with (refine wpList_store_row rfl 27 _ _ rfl T2 (insA ins0) rfl rfl 27 (insA ins0) HT5.out (ins_size _) rfl (ins_one _) ?_)
        have HT6 := row_set (cells := insA ins0) HT5.out
        refine bodyPost_ret (v := .tuple #[.agg (insA ins0), .int .i64 0, .int .i64 17]) (results_c2 rfl _ _ T2 27 (insA ins0) (0, 0) _ _ _ rfl rfl rfl HT6 Try.underlying27 rfl (ins_size _)) rfl ?_
        rw [← HFE.out]
        exact ⟨rfl, (HM5R.out.kept (by simp [World.setRow]) (fun k _ hr => setRow_other _ _ k _ (fun e => hr (by rw [e]; exact HRT3.out)))).weaken HSUB.out, (HK5.out.mono (fun k hk => ⟨hk.1, hk.2 rfl⟩)).trans ⟨rfl, rfl, rfl, by simp [World.setRow], fun k hk => setRow_other _ _ k _ (fun e => HRT.out (by rw [← e]; exact hk.1))⟩, fun _ => HC5.out.of_block (setRow_other _ _ C _ HTC.out.symm) (by simp [World.setRow])⟩
end Go.Proofs.Ythbgmlmcjnlopaa
