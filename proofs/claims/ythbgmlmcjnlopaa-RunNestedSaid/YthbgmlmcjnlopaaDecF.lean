/- package dec: a form reads bytes. -/
import Derived.Test.YthbgmlmcjnlopaaDecE
namespace Go.Proofs.Ythbgmlmcjnlopaa
open Go.ChangeShapes Go.WideShapes Go.ChangeAt Go.RowKit
set_option linter.unusedVariables false
set_option linter.unusedSimpArgs false

/-- An instruction as a value. -/
def insV (x : InsV) : Value := .agg #[.int .i64 x.op, .int .i64 x.a, .int .i64 x.b, .int .i64 x.alu, .int .i64 x.cc, .int .u64 x.imm, .int .i64 x.disp]

/-- What stands while a form reads: its result's block s, the instruction's block s + 1. -/
structure RdSt (w : World) (s g o : Nat) (F : Form) (A : Option Addr) (bs : List Nat) (W : World) (x : InsV) : Prop where
  bel : Below s w W
  frm : FormAt W g o F
  sl : bs.length = 0 ∨ ∃ b off, A = some ⟨b, off, none⟩ ∧ b < s ∧ Row W b off bs.length (bF bs)
  ins : InsAt W (s + 1) x
  res : Own W s 7 (insF ins0)
  glt : g < s

theorem RdSt.slB {w : World} {s g o : Nat} {F : Form} {A : Option Addr} {bs : List Nat} {W : World} {x : InsV} (h : RdSt w s g o F A bs W x) : SlB W A bs.length (bF bs) := by
  rcases h.sl with h' | ⟨b, off, e, hb, hr⟩
  · exact .inl h'
  · exact .inr ⟨b, off, e, by have := h.res.1; omega, hr⟩

theorem RdSt.drop {w : World} {s g o : Nat} {F : Form} {bs : List Nat} {W : World} {x : InsV} {b off : Nat} (h : RdSt w s g o F (some ⟨b, off, none⟩) bs W x) (k n : Nat)
    (hn : k + n ≤ bs.length) : SlB W (some ⟨b, off + k, none⟩) n (bF (bs.drop k)) := by
  rcases h.sl with h' | ⟨b', off', e, hb, hr⟩
  · exact .inl (by omega)
  · injection e with e
    injection e with e1 e2
    subst e1 e2
    refine .inr ⟨b, off + k, rfl, by have := h.res.1; omega, fun i hi => ?_⟩
    rw [bF_drop, Nat.add_assoc]
    exact hr (k + i) (by omega)

theorem RdSt.below {w : World} {s g o : Nat} {F : Form} {A : Option Addr} {bs : List Nat} {W W' : World} {x : InsV} (h : RdSt w s g o F A bs W x) (hb : Below W.heap.size W W') : RdSt w s g o F A bs W' x := by
  have h1 := h.ins.1
  refine ⟨h.bel.trans (hb.mono (by omega)), h.frm.below hb (by have := h.glt; omega), ?_, h.ins.below hb h1, h.res.below hb (by omega), h.glt⟩
  rcases h.sl with h' | ⟨b, off, e, hbl, hr⟩
  · exact .inl h'
  · exact .inr ⟨b, off, e, hbl, hr.below hb (by omega)⟩

theorem RdSt.grown {w : World} {s g o : Nat} {F : Form} {A : Option Addr} {bs : List Nat} {W W' : World} {x x' : InsV} (h : RdSt w s g o F A bs W x) (hb : W.grownBy W' (some (s + 1))) (hx : InsAt W' (s + 1) x') : RdSt w s g o F A bs W' x' := by
  have h1 := h.ins.1
  refine ⟨h.bel.trans ⟨hb.os, hb.tape, hb.output, hb.size, fun i hi => hb.block i (by omega) (by simp; omega)⟩, h.frm.grown hb (by have := h.glt; simp; omega), ?_, hx, h.res.grown hb (by simp), h.glt⟩
  rcases h.sl with h' | ⟨b, off, e, hbl, hr⟩
  · exact .inl h'
  · refine .inr ⟨b, off, e, hbl, fun i hi => ?_⟩
    exact (World.cell?_of_block (a := ⟨b, off + i, none⟩) (hb.block b (by omega) (by simp; omega))).trans (hr i hi)

theorem code_any_n (g o B n : Nat) (F : Form) (x : InsV) (bs : List Nat) (A : Option Addr) (cap : Nat) (w : World) (hn : n = bs.length) (hF : F.Ok) (hf : FormAt w g o F) (hb : Bn bs) (hl : n ≤ 9223372036854775807)
    (hs : SlB w A n (bF bs)) (hg : g ≠ B) (hx : InsAt w B x) (xa : x.a ≤ 8) (xb : x.b ≤ 8) :
    Calls Try.prog 87 #[.pointer (some ⟨g, o, none⟩), .slice A n cap, .pointer (some ⟨B, 0, none⟩)] w fun e w' =>
      e = .returned (.tuple #[.int .i64 (codeRead F x.a x.b bs).n, .int .i64 (codeRead F x.a x.b bs).fit]) ∧ w.grownBy w' (some B) ∧ InsAt w' B { x with a := (codeRead F x.a x.b bs).a, b := (codeRead F x.a x.b bs).b } := by
  subst hn
  exact code_any g o B F x bs A cap w hF hf hb hl hs hg hx xa xb
theorem tail_any_n (g o B n : Nat) (F : Form) (x : InsV) (bs : List Nat) (A : Option Addr) (cap : Nat) (w : World) (hn : n = bs.length) (hF : F.Ok) (hf : FormAt w g o F) (hb : Bn bs) (hl : n = tailLen F.tail)
    (hs : SlB w A n (bF bs)) (hx : InsAt w B x) (x5 : x.imm = 0) (x6 : x.disp = 0) :
    Calls Try.prog 89 #[.pointer (some ⟨g, o, none⟩), .slice A n cap, .pointer (some ⟨B, 0, none⟩)] w fun e w' =>
      e = .returned (.tuple #[]) ∧ w.grownBy w' (some B) ∧ InsAt w' B { x with imm := tailImm F.tail bs, disp := tailDisp F.tail bs } := by
  subst hn
  exact tail_any g o B F x bs A cap w hF hf hb hl hs hx x5 x6

theorem SlB.congr {w : World} {A : Option Addr} {n : Nat} {f f' : Nat → Int} (h : SlB w A n f) (e : ∀ i, i < n → f i = f' i) : SlB w A n f' := by
  rcases h with h | ⟨b, off, hA, hlt, hr⟩
  · exact .inl h
  · exact .inr ⟨b, off, hA, hlt, fun i hi => by rw [← e i hi]; exact hr i hi⟩

theorem rd_start (w : World) (g o : Nat) (F : Form) (A : Option Addr) (bs : List Nat) (T1 T2 : TypeId) (hf : FormAt w g o F) (hs : SlB w A bs.length (bF bs)) :
    RdSt w w.heap.size g o F A bs ((w.alloc (.cells #[.int .i64 0, .int .i64 0, .int .i64 0, .int .i64 0, .int .i64 0, .int .u64 0, .int .i64 0] T1)).alloc
      (.cells #[.int .i64 F.op, .int .i64 0, .int .i64 0, .int .i64 F.alu, .int .i64 F.cc, .int .u64 0, .int .i64 0] T2)).drew ⟨F.op, 0, 0, F.alu, F.cc, 0, 0⟩ := by
  have hb : Below w.heap.size w ((w.alloc (.cells #[.int .i64 0, .int .i64 0, .int .i64 0, .int .i64 0, .int .i64 0, .int .u64 0, .int .i64 0] T1)).alloc
      (.cells #[.int .i64 F.op, .int .i64 0, .int .i64 0, .int .i64 F.alu, .int .i64 F.cc, .int .u64 0, .int .i64 0] T2)) :=
    ((Below.refl _ _).alloc (Nat.le_refl _) _).alloc (by simp) _
  refine ⟨⟨hb.os, hb.tape, hb.output, hb.size, hb.block⟩, (hf.below hb hf.lt).of_block rfl (Nat.le_refl _), ?_, ?_, ?_, hf.lt⟩
  · rcases hs with h | ⟨b, off, e, hlt, hr⟩
    · exact .inl h
    · exact .inr ⟨b, off, e, hlt, fun i hi => (hb.cell (p := ⟨b, off + i, none⟩) hlt).trans (hr i hi)⟩
  · refine ⟨by simp [World.drew], fun i hi => ?_⟩
    rcases (by omega : i = 0 ∨ i = 1 ∨ i = 2 ∨ i = 3 ∨ i = 4 ∨ i = 5 ∨ i = 6) with rfl | rfl | rfl | rfl | rfl | rfl | rfl <;> constructor <;> simp [go_sem, insF]
  · refine ⟨by simp [World.drew]; omega, fun i hi => ?_⟩
    rcases (by omega : i = 0 ∨ i = 1 ∨ i = 2 ∨ i = 3 ∨ i = 4 ∨ i = 5 ∨ i = 6) with rfl | rfl | rfl | rfl | rfl | rfl | rfl <;> constructor <;> simp [go_sem, insF, ins0]

theorem preRead_bd (p : Pre) (bs : List Nat) : (preRead p bs).n ≤ 1 ∧ (preRead p bs).n ≤ bs.length ∧ (preRead p bs).a ≤ 8 ∧ (preRead p bs).b ≤ 8 := by
  unfold preRead
  split
  · simp
  · split
    · simp
    · split
      · split <;> simp
      · refine ⟨Nat.le_refl _, by simp, ?_, ?_⟩ <;> (simp only; split <;> omega)

theorem codeRead_bd (F : Form) (a b : Nat) (bs : List Nat) (h : (codeRead F a b bs).fit = 2) : (codeRead F a b bs).n ≤ 2 ∧ (codeRead F a b bs).n ≤ bs.length := by
  revert h
  unfold codeRead
  split
  · simp
  · split
    · split <;> simp
    · split
      · simp
      · split
        · simp
        · split
          · simp
          · split <;> simp

theorem tailLen_bd (t : Nat) : tailLen t ≤ 8 := by unfold tailLen; split <;> omega

theorem headRead_pre {F : Form} {bs : List Nat} {r : Rd} (hr : preRead (preF F.pre) bs = r) (h : ¬ r.fit = 2) : headRead F bs = ⟨0, r.fit, 0, 0⟩ := by
  unfold headRead; rw [hr, if_pos h]
theorem headRead_code {F : Form} {bs : List Nat} {r c : Rd} (hr : preRead (preF F.pre) bs = r) (h : r.fit = 2) (hc : codeRead F r.a r.b (bs.drop r.n) = c) (h' : ¬ c.fit = 2) : headRead F bs = ⟨0, c.fit, 0, 0⟩ := by
  unfold headRead; rw [hr, if_neg (fun k => k h), hc, if_pos h']
theorem headRead_full {F : Form} {bs : List Nat} {r c : Rd} (hr : preRead (preF F.pre) bs = r) (h : r.fit = 2) (hc : codeRead F r.a r.b (bs.drop r.n) = c) (h' : c.fit = 2) : headRead F bs = ⟨r.n + c.n, 2, c.a, c.b⟩ := by
  unfold headRead; rw [hr, if_neg (fun k => k h), hc, if_neg (fun k => k h')]
theorem readM_pre {F : Form} {bs : List Nat} {r : Rd} (hr : preRead (preF F.pre) bs = r) (h : ¬ r.fit = 2) : readM F bs = ⟨ins0, 0, r.fit⟩ := by
  unfold readM; rw [headRead_pre hr h, if_pos h]
theorem readM_code {F : Form} {bs : List Nat} {r c : Rd} (hr : preRead (preF F.pre) bs = r) (h : r.fit = 2) (hc : codeRead F r.a r.b (bs.drop r.n) = c) (h' : ¬ c.fit = 2) : readM F bs = ⟨ins0, 0, c.fit⟩ := by
  unfold readM; rw [headRead_code hr h hc h', if_pos h']
theorem readM_short {F : Form} {bs : List Nat} {r c : Rd} (hr : preRead (preF F.pre) bs = r) (h : r.fit = 2) (hc : codeRead F r.a r.b (bs.drop r.n) = c) (h' : c.fit = 2) (hs : bs.length < r.n + c.n + tailLen F.tail) : readM F bs = ⟨ins0, 0, 1⟩ := by
  unfold readM; rw [headRead_full hr h hc h', if_neg (fun k => k rfl), if_pos hs]
theorem readM_full {F : Form} {bs : List Nat} {r c : Rd} (hr : preRead (preF F.pre) bs = r) (h : r.fit = 2) (hc : codeRead F r.a r.b (bs.drop r.n) = c) (h' : c.fit = 2) (hs : ¬ bs.length < r.n + c.n + tailLen F.tail) :
    readM F bs = ⟨⟨F.op, c.a, c.b, F.alu, F.cc, tailImm F.tail (bs.drop (r.n + c.n)), tailDisp F.tail (bs.drop (r.n + c.n))⟩, r.n + c.n + tailLen F.tail, 2⟩ := by
  unfold readM; rw [headRead_full hr h hc h', if_neg (fun k => k rfl), if_neg hs]

theorem leN_take (l : List Nat) : ∀ n m, n ≤ m → leN (l.take m) n = leN l n
  | 0, _, _ => rfl
  | n + 1, 0, h => by omega
  | n + 1, m + 1, h => by
    cases l with
    | nil => simp
    | cons a t => simp only [List.take_succ_cons, leN, List.headD_cons, List.tail_cons]; rw [leN_take t n m (by omega)]
theorem headD_take (l : List Nat) (n : Nat) (h : 1 ≤ n) : (l.take n).headD 0 = l.headD 0 := by
  cases l with
  | nil => simp
  | cons a t => obtain ⟨m, rfl⟩ : ∃ m, n = m + 1 := ⟨n - 1, by omega⟩; simp
theorem tailImm_take (t : Nat) (l : List Nat) : tailImm t (l.take (tailLen t)) = tailImm t l := by
  unfold tailImm
  split
  · exact leN_take _ _ _ (Nat.le_refl _)
  · exact leN_take _ _ _ (Nat.le_refl _)
  · exact headD_take _ _ (Nat.le_refl _)
  · exact congrArg sgn8 (headD_take _ _ (Nat.le_refl _))
  · rfl
theorem tailDisp_take (t : Nat) (l : List Nat) : tailDisp t (l.take (tailLen t)) = tailDisp t l := by
  unfold tailDisp
  split
  · exact congrArg i32N (leN_take _ _ _ (Nat.le_refl _))
  · exact congrArg i8N (headD_take _ _ (Nat.le_refl _))
  · rfl
theorem bF_take (l : List Nat) (n i : Nat) (h : i < n) : bF (l.take n) i = bF l i := by
  unfold bF; simp [List.getD, List.getElem?_take, h]
theorem Bn.take {l : List Nat} (h : Bn l) (n : Nat) : Bn (l.take n) := fun v hv => h v (List.mem_of_mem_take hv)

/-- The result's block once it holds the instruction. -/
theorem res_cells {w : World} {s : Nat} {x : InsV} (h : Own w s 7 (insF x)) : w.cell? ⟨s, 0, none⟩ = some (.int .i64 x.op) ∧ w.cell? ⟨s, 1, none⟩ = some (.int .i64 x.a) ∧ w.cell? ⟨s, 2, none⟩ = some (.int .i64 x.b) ∧ w.cell? ⟨s, 3, none⟩ = some (.int .i64 x.alu) ∧
    w.cell? ⟨s, 4, none⟩ = some (.int .i64 x.cc) ∧ w.cell? ⟨s, 5, none⟩ = some (.int .u64 x.imm) ∧ w.cell? ⟨s, 6, none⟩ = some (.int .i64 x.disp) :=
  ⟨h.cell (i := 0) (by omega), h.cell (i := 1) (by omega), h.cell (i := 2) (by omega), h.cell (i := 3) (by omega), h.cell (i := 4) (by omega), h.cell (i := 5) (by omega), h.cell (i := 6) (by omega)⟩
theorem res_frozen {w : World} {s : Nat} {x : InsV} (h : Own w s 7 (insF x)) : w.frozen? ⟨s, 0, none⟩ = false ∧ w.frozen? ⟨s, 1, none⟩ = false ∧ w.frozen? ⟨s, 2, none⟩ = false ∧ w.frozen? ⟨s, 3, none⟩ = false ∧
    w.frozen? ⟨s, 4, none⟩ = false ∧ w.frozen? ⟨s, 5, none⟩ = false ∧ w.frozen? ⟨s, 6, none⟩ = false :=
  ⟨h.frozen (i := 0) (by omega), h.frozen (i := 1) (by omega), h.frozen (i := 2) (by omega), h.frozen (i := 3) (by omega), h.frozen (i := 4) (by omega), h.frozen (i := 5) (by omega), h.frozen (i := 6) (by omega)⟩

set_option maxHeartbeats 1000000 in
theorem read_some (g o b off : Nat) (F : Form) (bs : List Nat) (cap : Nat) (w : World) (hF : F.Ok) (hf : FormAt w g o F) (hb : Bn bs) (hl : bs.length ≤ cap) (hl' : cap ≤ 9223372036854775807)
    (hs : SlB w (some ⟨b, off, none⟩) bs.length (bF bs)) :
    Calls Try.prog 78 #[.pointer (some ⟨g, o, none⟩), .slice (some ⟨b, off, none⟩) bs.length cap] w fun e w' =>
      e = .returned (.tuple #[insV (readM F bs).x, .int .i64 (readM F bs).n, .int .i64 (readM F bs).fit]) ∧ Below w.heap.size w w' := by
  have hlt := hf.lt
  have c0 := hf.c0
  have c1 := hf.c1
  have c2 := hf.c2
  have HST := Lib.hid (rd_start w g o F (some ⟨b, off, none⟩) bs 27 27 hf hs)
  go_enter Try.func78, Try.ntmps78
  go_wp2
  go_region
  clear c0 c1 c2 hf hs hlt
  generalize ((w.alloc (.cells #[.int .i64 0, .int .i64 0, .int .i64 0, .int .i64 0, .int .i64 0, .int .u64 0, .int .i64 0] 27)).alloc
      (.cells #[.int .i64 F.op, .int .i64 0, .int .i64 0, .int .i64 F.alu, .int .i64 F.cc, .int .u64 0, .int .i64 0] 27)).drew = W1 at *
  go_wp2_with fail
  refine (prefix_any g o F W1 hF HST.out.frm).mono ?_
  rintro e W2 ⟨rfl, hw2⟩
  replace HST := Lib.hid (HST.out.below hw2)
  clear hw2
  go_wp2_with fail
  obtain ⟨p1, p2, p3⟩ : (preF F.pre).base ≤ 255 ∧ (preF F.pre).bitA ≤ 255 ∧ (preF F.pre).bitB ≤ 255 := by
    unfold preF; split <;> simp
  refine (pr_any (preF F.pre) bs ⟨F.op, 0, 0, F.alu, F.cc, 0, 0⟩ _ cap _ W2 p1 p2 p3 hb (by omega) HST.out.slB HST.out.ins rfl rfl).mono ?_
  rintro e W3 ⟨rfl, hw3, hi3⟩
  replace HST := Lib.hid (HST.out.grown hw3 hi3)
  clear hw3 hi3 p1 p2 p3
  obtain ⟨r1, r2, r3, r4⟩ := preRead_bd (preF F.pre) bs
  obtain ⟨r, hr⟩ : ∃ r, preRead (preF F.pre) bs = r := ⟨_, rfl⟩
  rw [hr] at HST r1 r2 r3 r4
  rw [hr]
  by_cases h2 : r.fit = 2
  · have d : ((r.fit : Int) != 2) = false := by rw [h2]; rfl
    have d' : ((r.fit : Int) == 2) = true := by rw [h2]; rfl
    have HH2 := Lib.hid h2
    clear h2
    go_wp2_with fail
    all_goals
      refine (code_any_n g o _ _ F ⟨F.op, r.a, r.b, F.alu, F.cc, 0, 0⟩ (bs.drop r.n) _ _ W3 (by rw [List.length_drop]) hF HST.out.frm (hb.drop _) (by omega) (by first | exact .inl (by omega) | exact HST.out.drop r.n _ (by omega)) (by have := HST.out.glt; omega) HST.out.ins r3 r4).mono ?_
      rintro e W4 ⟨rfl, hw4, hi4⟩
      replace HST := Lib.hid (HST.out.grown hw4 hi4)
      clear hw4 hi4
      have hcb := codeRead_bd F r.a r.b (bs.drop r.n)
      obtain ⟨c, hc⟩ : ∃ c, codeRead F r.a r.b (bs.drop r.n) = c := ⟨_, rfl⟩
      rw [hc] at HST hcb
      simp only [hc]
      by_cases h3 : c.fit = 2
      · have e' : ((c.fit : Int) != 2) = false := by rw [h3]; rfl
        have e'' : ((c.fit : Int) == 2) = true := by rw [h3]; rfl
        obtain ⟨b1, b2⟩ := hcb h3
        rw [List.length_drop] at b2
        have HH3 := Lib.hid h3
        have HT := Lib.hid (tailLen_any g o F W4 hF HST.out.frm)
        have t8 := tailLen_bd F.tail
        clear h3 hcb
        go_wp2_with fail
        refine (HT.out).mono ?_
        rintro e u ⟨rfl, rfl⟩
        by_cases h4 : bs.length < r.n + c.n + tailLen F.tail
        · have E := readM_short hr HH2.out hc HH3.out h4
          obtain ⟨T, hT⟩ : ∃ T, tailLen F.tail = T := ⟨_, rfl⟩
          rw [hT] at h4 t8 ⊢
          have q : decide ((bs.length : Int) - ((r.n : Int) + (c.n : Int)) < (T : Int)) = true := decide_eq_true (by omega)
          have HE := Lib.hid E
          clear E h4
          obtain ⟨k0, k1, k2, k3, k4, k5, k6⟩ := res_cells HST.out.res
          obtain ⟨l0, l1, l2, l3, l4, l5, l6⟩ := res_frozen HST.out.res
          have hbel := HST.out.bel
          have hsz : w.heap.size < W4.heap.size := HST.out.res.1
          simp only [ins0, Int.natCast_zero] at k0 k1 k2 k3 k4 k5 k6
          go_wp2
          exact bodyPost_ret (v := .tuple #[.agg #[.int .i64 0, .int .i64 0, .int .i64 0, .int .i64 0, .int .i64 0, .int .u64 0, .int .i64 0], .int .i64 0, .int .i64 1]) (by simp [results, Try.results78, go_sem, k0, k1, k2, k3, k4, k5, k6, l0, l1, l2, l3, l4, l5, l6]) rfl ⟨by rw [HE.out]; rfl, by go_grown⟩
        · have HE := Lib.hid (readM_full hr HH2.out hc HH3.out h4)
          obtain ⟨T, hT⟩ : ∃ T, tailLen F.tail = T := ⟨_, rfl⟩
          rw [hT] at h4 t8 HE ⊢
          have q : decide ((bs.length : Int) - ((r.n : Int) + (c.n : Int)) < (T : Int)) = false := decide_eq_false (by omega)
          have h4' : r.n + c.n + T ≤ bs.length := by omega
          have HHT := Lib.hid hT
          clear h4 hT
          go_wp2_with fail
          all_goals
            refine (tail_any_n g o _ _ F ⟨F.op, c.a, c.b, F.alu, F.cc, 0, 0⟩ ((bs.drop (r.n + c.n)).take (tailLen F.tail)) _ _ W4 (by rw [List.length_take, List.length_drop, HHT.out]; omega) hF HST.out.frm ((hb.drop _).take _) HHT.out.symm
              (by first | exact .inl (by omega) | exact (HST.out.drop (r.n + c.n) T (by omega)).congr (fun i hi => (bF_take _ _ _ (by rw [HHT.out]; exact hi)).symm)) HST.out.ins rfl rfl).mono ?_
            rintro e W5 ⟨rfl, hw5, hi5⟩
            rw [tailImm_take, tailDisp_take] at hi5
            replace HST := Lib.hid (HST.out.grown hw5 hi5)
            clear hw5 hi5
            obtain ⟨im, him⟩ : ∃ im, tailImm F.tail (bs.drop (r.n + c.n)) = im := ⟨_, rfl⟩
            obtain ⟨di, hdi⟩ : ∃ di, tailDisp F.tail (bs.drop (r.n + c.n)) = di := ⟨_, rfl⟩
            rw [him, hdi] at HST HE
            obtain ⟨m0, m1, m2, m3, m4, m5, m6⟩ := res_cells HST.out.ins
            have hsz2 : w.heap.size + 1 < W5.heap.size := HST.out.ins.1
            simp only at m0 m1 m2 m3 m4 m5 m6
            obtain ⟨k0, k1, k2, k3, k4, k5, k6⟩ := res_cells HST.out.res
            obtain ⟨l0, l1, l2, l3, l4, l5, l6⟩ := res_frozen HST.out.res
            have hbel := HST.out.bel
            have hsz : w.heap.size < W5.heap.size := HST.out.res.1
            simp only [ins0, Int.natCast_zero] at k0 k1 k2 k3 k4 k5 k6
            go_wp2
            exact bodyPost_ret (v := .tuple #[.agg #[.int .i64 F.op, .int .i64 c.a, .int .i64 c.b, .int .i64 F.alu, .int .i64 F.cc, .int .u64 im, .int .i64 di], .int .i64 ((r.n : Int) + (c.n : Int) + (T : Int)), .int .i64 2]) (by simp [results, Try.results78, go_sem, k0, k1, k2, k3, k4, k5, k6, l0, l1, l2, l3, l4, l5, l6]) rfl ⟨by rw [HE.out]; rfl, by go_grown⟩
      · have e' : ((c.fit : Int) != 2) = true := bne_iff_ne.mpr (by omega)
        have e'' : ((c.fit : Int) == 2) = false := beq_eq_false_iff_ne.mpr (by omega)
        have HE := Lib.hid (readM_code hr HH2.out hc h3)
        clear h3 hcb
        obtain ⟨k0, k1, k2, k3, k4, k5, k6⟩ := res_cells HST.out.res
        obtain ⟨l0, l1, l2, l3, l4, l5, l6⟩ := res_frozen HST.out.res
        have hbel := HST.out.bel
        have hsz : w.heap.size < W4.heap.size := HST.out.res.1
        simp only [ins0, Int.natCast_zero] at k0 k1 k2 k3 k4 k5 k6
        go_wp2
        exact bodyPost_ret (v := .tuple #[.agg #[.int .i64 0, .int .i64 0, .int .i64 0, .int .i64 0, .int .i64 0, .int .u64 0, .int .i64 0], .int .i64 0, .int .i64 c.fit]) (by simp [results, Try.results78, go_sem, k0, k1, k2, k3, k4, k5, k6, l0, l1, l2, l3, l4, l5, l6]) rfl ⟨by rw [HE.out]; rfl, by go_grown⟩
  · have d : ((r.fit : Int) != 2) = true := bne_iff_ne.mpr (by omega)
    have d' : ((r.fit : Int) == 2) = false := beq_eq_false_iff_ne.mpr (by omega)
    have HE := Lib.hid (readM_pre hr h2)
    clear h2
    obtain ⟨k0, k1, k2, k3, k4, k5, k6⟩ := res_cells HST.out.res
    obtain ⟨l0, l1, l2, l3, l4, l5, l6⟩ := res_frozen HST.out.res
    have hbel := HST.out.bel
    have hsz : w.heap.size < W3.heap.size := HST.out.res.1
    simp only [ins0, Int.natCast_zero] at k0 k1 k2 k3 k4 k5 k6
    go_wp2
    exact bodyPost_ret (v := .tuple #[.agg #[.int .i64 0, .int .i64 0, .int .i64 0, .int .i64 0, .int .i64 0, .int .u64 0, .int .i64 0], .int .i64 0, .int .i64 r.fit]) (by simp [results, Try.results78, go_sem, k0, k1, k2, k3, k4, k5, k6, l0, l1, l2, l3, l4, l5, l6]) rfl ⟨by rw [HE.out]; rfl, by go_grown⟩
end Go.Proofs.Ythbgmlmcjnlopaa
