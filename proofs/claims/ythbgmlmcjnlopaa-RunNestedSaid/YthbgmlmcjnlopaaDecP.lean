/- What is encoded is decoded; each beginning of it may become it. -/
import Derived.Test.YthbgmlmcjnlopaaDecO
namespace Go.Proofs.Ythbgmlmcjnlopaa
set_option linter.unusedVariables false
set_option linter.unusedSimpArgs false

theorem preRead_more (p : Pre) (h t : List Nat) (hf : (preRead p h).fit ≠ 1) : preRead p (h ++ t) = preRead p h := by
  cases h with
  | nil =>
    unfold preRead at hf ⊢
    by_cases hb : p.base = 0
    · simp [hb]
    · simp [hb] at hf
  | cons v r => rfl
theorem codeRead_more (F : Form) (a b : Nat) (h t : List Nat) (hf : (codeRead F a b h).fit ≠ 1) : codeRead F a b (h ++ t) = codeRead F a b h := by
  match h with
  | [] => exact absurd rfl hf
  | [c] =>
    unfold codeRead at hf ⊢
    simp only [List.cons_append, List.nil_append] at hf ⊢
    by_cases h1 : F.regs = 1
    · simp only [h1, if_true]
    · by_cases h2 : c ≠ F.code
      · simp only [h1, if_false, if_pos h2]
      · by_cases h3 : F.regs = 0
        · simp only [h1, if_false, if_neg h2, if_pos h3]
        · exact absurd (by simp only [h1, if_false, if_neg h2, if_neg h3]) hf
  | c :: v :: r => rfl
theorem preRead_le (p : Pre) (h : List Nat) : (preRead p h).n ≤ h.length := by
  unfold preRead
  split
  · simp
  · split
    · simp
    · split
      · split <;> simp
      · simp
theorem headRead_more (F : Form) (h t : List Nat) (hf : (headRead F h).fit ≠ 1) : headRead F (h ++ t) = headRead F h := by
  have hl := preRead_le (preF F.pre) h
  by_cases h1 : (preRead (preF F.pre) h).fit = 1
  · exact absurd (by unfold headRead; rw [if_pos (by rw [h1]; decide), h1]) hf
  · have e := preRead_more (preF F.pre) h t h1
    by_cases h2 : (preRead (preF F.pre) h).fit = 2
    · unfold headRead at hf ⊢
      rw [e, List.drop_append_of_le_length hl]
      rw [if_neg (fun k => k h2)] at hf
      have h3 : (codeRead F (preRead (preF F.pre) h).a (preRead (preF F.pre) h).b (h.drop (preRead (preF F.pre) h).n)).fit ≠ 1 := by
        intro k
        rw [if_pos (by rw [k]; decide)] at hf
        exact hf k
      rw [codeRead_more _ _ _ _ _ h3]
    · unfold headRead
      rw [e, if_pos h2, if_pos h2]

theorem fits_heads {F : Form} (hF : F ∈ forms) {a b : Nat} (ha : regOkM a (hasA F.regs) = true) (hb : regOkM b (hasB F.regs) = true) (hc : (F.regs == 4 && (b &&& 7) == 4) = false) :
    headRead F (headB F a b) = ⟨(headB F a b).length, 2, a, b⟩ ∧ ∀ G ∈ forms, G ≠ F → (headRead G (headB F a b)).fit = 0 := by
  have reg : ∀ (r : Nat) (n : Bool), regOkM r n = true → r ∈ regsOf n := by
    intro r n h
    cases n
    · simp only [regOkM, Bool.false_and, Bool.or_false, beq_iff_eq] at h; simp [regsOf, h]
    · simp only [regOkM, Bool.true_and, Bool.or_eq_true, beq_iff_eq, decide_eq_true_eq] at h
      simp only [regsOf, if_true, List.mem_range]; omega
  have h := heads_ok
  unfold headsOk at h
  have h := List.all_eq_true.mp h F hF
  have h := List.all_eq_true.mp h a (reg _ _ ha)
  have h := List.all_eq_true.mp h b (reg _ _ hb)
  simp only [baseOk, hc, Bool.not_false, Bool.not_true, Bool.false_or, Bool.and_eq_true, beq_iff_eq] at h
  refine ⟨h.1, fun G hG hne => ?_⟩
  have h := List.all_eq_true.mp h.2 G hG
  simpa [hne] using h

theorem leBytes_succ (v n : Nat) : leBytes v (n + 1) = v % 256 :: leBytes (v / 256) n := by
  unfold leBytes
  rw [List.range_succ_eq_map, List.map_cons, List.map_map]
  congr 1
  · simp
  · refine List.map_congr_left fun i _ => ?_
    simp only [Function.comp]
    rw [show 8 * Nat.succ i = 8 + 8 * i by omega, Nat.pow_add, show (2 : Nat) ^ 8 = 256 from rfl, Nat.div_div_eq_div_mul]
theorem leN_leBytes (more : List Nat) : ∀ n v, leN (leBytes v n ++ more) n = v % 256 ^ n
  | 0, v => by simp [leN, Nat.mod_one]
  | n + 1, v => by
    rw [leBytes_succ, List.cons_append]
    simp only [leN, List.headD_cons, List.tail_cons]
    rw [leN_leBytes more n (v / 256), Nat.pow_succ, Nat.mul_comm (256 ^ n) 256, Nat.mod_mul]
theorem leBytes_len' (v n : Nat) : (leBytes v n).length = n := by simp [leBytes]

theorem tail_back (F : Form) (x : InsV) (more : List Nat) (hi : immOk F.tail x.imm = true) (hd : dispOk F.tail x.disp = true) (hx : x.imm < 18446744073709551616) (ht : F.tail ≤ 6) :
    tailImm F.tail (leBytes (tailVal F x) (tailLen F.tail) ++ more) = x.imm ∧ tailDisp F.tail (leBytes (tailVal F x) (tailLen F.tail) ++ more) = x.disp := by
  obtain ⟨op, alu, cc, pre, code, regs, ext, tail⟩ := F
  simp only at *
  unfold tailVal
  simp only at *
  rcases (by omega : tail = 0 ∨ tail = 1 ∨ tail = 2 ∨ tail = 3 ∨ tail = 4 ∨ tail = 5 ∨ tail = 6) with rfl | rfl | rfl | rfl | rfl | rfl | rfl
  · simp [immOk] at hi; simp [dispOk] at hd; simp [tailImm, tailDisp, hi, hd]
  · simp [dispOk] at hd
    simp only [tailImm, tailDisp, tailLen, leN_leBytes, hd]
    refine ⟨?_, trivial⟩
    simp only [show ¬ ((1 : Nat) = 5 ∨ (1 : Nat) = 6) by decide, if_false]
    exact Nat.mod_eq_of_lt (by simpa using hx)
  · simp [dispOk] at hd
    simp [immOk] at hi
    simp only [tailImm, tailDisp, tailLen, leN_leBytes, hd]
    refine ⟨?_, trivial⟩
    simp only [show ¬ ((2 : Nat) = 5 ∨ (2 : Nat) = 6) by decide, if_false]
    exact Nat.mod_eq_of_lt (by omega)
  · simp [dispOk] at hd
    simp [immOk] at hi
    simp only [tailImm, tailDisp, tailLen, hd, leBytes_succ, List.cons_append, List.headD_cons]
    refine ⟨?_, trivial⟩
    simp only [show ¬ ((3 : Nat) = 5 ∨ (3 : Nat) = 6) by decide, if_false]
    omega
  · simp [dispOk] at hd
    simp [immOk] at hi
    simp only [tailImm, tailDisp, tailLen, hd, leBytes_succ, List.cons_append, List.headD_cons]
    refine ⟨?_, trivial⟩
    simp only [show ¬ ((4 : Nat) = 5 ∨ (4 : Nat) = 6) by decide, if_false]
    exact hi.symm
  · simp [immOk] at hi
    simp [dispOk] at hd
    simp only [tailImm, tailDisp, tailLen, hi, leN_leBytes]
    refine ⟨trivial, ?_⟩
    rw [if_pos (by decide)]
    obtain ⟨d1, d2⟩ := hd
    generalize x.disp = d at *
    have : (d % 18446744073709551616).toNat % 256 ^ 4 = (d % 4294967296).toNat := by
      rw [show (256 : Nat) ^ 4 = 4294967296 from rfl]; omega
    rw [this]
    unfold i32N
    split <;> omega
  · simp [immOk] at hi
    simp [dispOk] at hd
    simp only [tailImm, tailDisp, tailLen, hi, leBytes_succ, List.cons_append, List.headD_cons]
    refine ⟨trivial, ?_⟩
    rw [if_pos (by decide)]
    obtain ⟨d1, d2⟩ := hd
    generalize x.disp = d at *
    unfold i8N
    split <;> omega

/-- An instruction that a form tells. -/
structure Tells (F : Form) (x : InsV) : Prop where
  mem : F ∈ forms
  op : F.op = x.op
  alu : F.alu = x.alu
  cc : F.cc = x.cc
  fits : fitsM F x = true
  imm : x.imm < 18446744073709551616

theorem Tells.parts {F : Form} {x : InsV} (h : Tells F x) : regOkM x.a (hasA F.regs) = true ∧ regOkM x.b (hasB F.regs) = true ∧ (F.regs == 4 && (x.b &&& 7) == 4) = false ∧ immOk F.tail x.imm = true ∧ dispOk F.tail x.disp = true := by
  have := h.fits
  simp only [fitsM, Bool.and_eq_true, Bool.not_eq_true'] at this
  obtain ⟨⟨⟨h1, h2⟩, h3⟩, h4, h5⟩ := this
  exact ⟨h1, h2, h3, h4, h5⟩

theorem Tells.read {F : Form} {x : InsV} (h : Tells F x) (more : List Nat) : readM F (encM F x ++ more) = ⟨x, (encM F x).length, 2⟩ := by
  obtain ⟨p1, p2, p3, p4, p5⟩ := h.parts
  obtain ⟨e1, _⟩ := fits_heads h.mem p1 p2 p3
  have ht := (forms_ok F h.mem).tail
  rw [encM_head, List.append_assoc]
  have e2 : headRead F (headB F x.a x.b ++ (leBytes (tailVal F x) (tailLen F.tail) ++ more)) = ⟨(headB F x.a x.b).length, 2, x.a, x.b⟩ := by
    rw [headRead_more _ _ _ (by rw [e1]; simp), e1]
  unfold readM
  rw [e2]
  simp only [ne_eq, not_true_eq_false, if_false]
  rw [if_neg (by simp only [List.length_append, leBytes_len']; omega), List.drop_left]
  obtain ⟨t1, t2⟩ := tail_back F x more p4 p5 h.imm ht
  rw [t1, t2, h.op, h.alu, h.cc]
  simp only [List.length_append, leBytes_len']

theorem Tells.other {F G : Form} {x : InsV} (h : Tells F x) (hG : G ∈ forms) (hne : G ≠ F) (more : List Nat) : (readM G (encM F x ++ more)).fit = 0 := by
  obtain ⟨p1, p2, p3, p4, p5⟩ := h.parts
  obtain ⟨_, e2⟩ := fits_heads h.mem p1 p2 p3
  have e := e2 G hG hne
  rw [encM_head, List.append_assoc]
  unfold readM
  rw [headRead_more _ _ _ (by rw [e]; decide), if_pos (by rw [e]; decide)]
  exact e

theorem decodeM_first {F : Form} {bs : List Nat} : ∀ (l : List Form) (e : Nat), F ∈ l → (∀ G ∈ l, G ≠ F → (readM G bs).fit ≠ 2) → (readM F bs).fit = 2 → decodeM l e bs = ⟨(readM F bs).x, (readM F bs).n, 0⟩
  | [], _, h, _, _ => absurd h (by simp)
  | G :: l, e, h, ho, hF => by
    unfold decodeM
    by_cases hG : G = F
    · subst hG; rw [if_pos hF]
    · rw [if_neg (ho G (by simp) hG)]
      exact decodeM_first l _ (by simpa [Ne.symm hG] using h) (fun G' hG' => ho G' (by simp [hG'])) hF

theorem decodeM_short {bs : List Nat} : ∀ (l : List Form) (e : Nat), (∀ G ∈ l, (readM G bs).fit ≠ 2) → (e = 2 ∨ ∃ F ∈ l, (readM F bs).fit = 1) → decodeM l e bs = ⟨ins0, 0, 2⟩
  | [], e, _, h => by
    rcases h with rfl | ⟨F, hF, _⟩
    · rfl
    · simp at hF
  | G :: l, e, ho, h => by
    unfold decodeM
    rw [if_neg (ho G (by simp))]
    refine decodeM_short l _ (fun G' hG' => ho G' (by simp [hG'])) ?_
    by_cases h1 : (readM G bs).fit = 1
    · exact .inl (if_pos h1)
    · rw [if_neg h1]
      rcases h with h | ⟨F, hF, hf⟩
      · exact .inl h
      · rcases List.mem_cons.mp hF with rfl | hF
        · exact absurd hf h1
        · exact .inr ⟨F, hF, hf⟩

theorem decodeM_none {bs : List Nat} : ∀ (l : List Form) (e : Nat), (∀ G ∈ l, (readM G bs).fit = 0) → decodeM l e bs = ⟨ins0, 0, e⟩
  | [], e, _ => rfl
  | G :: l, e, ho => by
    unfold decodeM
    have h := ho G (by simp)
    rw [if_neg (by rw [h]; decide), if_neg (by rw [h]; decide)]
    exact decodeM_none l e fun G' hG' => ho G' (by simp [hG'])

/-- What is encoded is decoded, whatever stands behind it. -/
theorem Tells.back {F : Form} {x : InsV} (h : Tells F x) (more : List Nat) : decodeM forms 16 (encM F x ++ more) = ⟨x, (encM F x).length, 0⟩ := by
  have hr := h.read more
  rw [decodeM_first (F := F) forms 16 h.mem (fun G hG hne => by rw [h.other hG hne]; decide) (by rw [hr]), hr]

theorem readM_whole {G : Form} {a b : List Nat} (h : (readM G a).fit = 2) : (readM G (a ++ b)).fit = 2 := by
  unfold readM at h ⊢
  by_cases h1 : (headRead G a).fit = 2
  · rw [headRead_more _ _ _ (by rw [h1]; decide)]
    rw [if_neg (fun k => k h1)] at h ⊢
    by_cases h2 : a.length < (headRead G a).n + tailLen G.tail
    · rw [if_pos h2] at h; exact absurd h (by decide)
    · rw [if_neg (by simp only [List.length_append]; omega)]
  · rw [if_pos h1] at h; exact absurd h h1

/-- Each beginning of it may become it. -/
theorem Tells.begins {F : Form} {x : InsV} (h : Tells F x) (i : Nat) (hi : i < (encM F x).length) : decodeM forms 16 ((encM F x).take i) = ⟨ins0, 0, 2⟩ := by
  have hcat : (encM F x).take i ++ (encM F x).drop i = encM F x ++ [] := by rw [List.take_append_drop, List.append_nil]
  have hF := h.read []
  rw [← hcat] at hF
  have hlen : ((encM F x).take i).length = i := by rw [List.length_take]; omega
  have hs : (readM F ((encM F x).take i)).fit = 1 := by
    have h1 : (headRead F ((encM F x).take i)).fit ≠ 0 := by
      intro k
      have := headRead_more F _ ((encM F x).drop i) (by rw [k]; decide)
      unfold readM at hF
      rw [this, if_pos (by rw [k]; decide)] at hF
      have := congrArg Got.fit hF
      rw [k] at this
      exact absurd this (by simp)
    by_cases h2 : (headRead F ((encM F x).take i)).fit = 2
    · unfold readM
      rw [if_neg (fun k => k h2)]
      have e := headRead_more F _ ((encM F x).drop i) (by rw [h2]; decide)
      unfold readM at hF
      rw [e, if_neg (fun k => k h2)] at hF
      by_cases h3 : ((encM F x).take i ++ (encM F x).drop i).length < (headRead F ((encM F x).take i)).n + tailLen F.tail
      · rw [if_pos h3] at hF
        exact absurd (congrArg Got.fit hF) (by simp)
      · rw [if_neg h3] at hF
        have := congrArg Got.n hF
        simp only at this
        rw [if_pos (by omega)]
    · have h3 : (headRead F ((encM F x).take i)).fit = 1 := by
        unfold headRead at h1 h2 ⊢
        have q1 : ∀ p l, (preRead p l).fit = 0 ∨ (preRead p l).fit = 1 ∨ (preRead p l).fit = 2 := by
          intro p l
          unfold preRead
          split
          · simp
          · split
            · simp
            · split
              · split <;> simp
              · simp
        have q2 : ∀ a b l, (codeRead F a b l).fit = 0 ∨ (codeRead F a b l).fit = 1 ∨ (codeRead F a b l).fit = 2 := by
          intro a b l
          unfold codeRead
          split
          · simp
          · split
            · split <;> simp
            · split
              · simp
              · split
                · simp
                · split
                  · simp
                  · split <;> simp
        split at h1 <;> rename_i g1
        · rw [if_pos g1] at h2 ⊢
          rcases q1 (preF F.pre) ((encM F x).take i) with k | k | k
          · exact absurd k h1
          · exact k
          · exact absurd k h2
        · rw [if_neg g1] at h2 ⊢
          split at h1 <;> rename_i g2
          · rw [if_pos g2] at h2 ⊢
            rcases q2 _ _ (((encM F x).take i).drop (preRead (preF F.pre) ((encM F x).take i)).n) with k | k | k
            · exact absurd k h1
            · exact k
            · exact absurd k h2
          · rw [if_neg g2] at h2
            exact absurd rfl h2
      unfold readM
      rw [if_pos (by rw [h3]; decide)]
      exact h3
  refine decodeM_short forms 16 (fun G hG k => ?_) (.inr ⟨F, h.mem, hs⟩)
  by_cases hne : G = F
  · subst hne; rw [hs] at k; exact absurd k (by decide)
  · have := readM_whole (b := (encM F x).drop i) k
    rw [hcat, h.other hG hne []] at this
    exact absurd this (by decide)

/-- Unlike instructions have unlike bytes. -/
theorem Tells.apart {F G : Form} {x y : InsV} (hx : Tells F x) (hy : Tells G y) (he : encM F x = encM G y) : x = y := by
  have h1 := hx.back []
  have h2 := hy.back []
  rw [he, h2] at h1
  exact (congrArg Got.x h1).symm

theorem forms_apart : ∀ F ∈ forms, ∀ G ∈ forms, F.op = G.op → F.alu = G.alu → F.cc = G.cc → F = G := by decide +kernel
theorem findM_of {F : Form} {x : InsV} (hop : F.op = x.op) (halu : F.alu = x.alu) (hcc : F.cc = x.cc) (hf : fitsM F x = true) : ∀ l : List Form, F ∈ l → (∀ G ∈ l, G.op = F.op → G.alu = F.alu → G.cc = F.cc → G = F) → findM l x = some F
  | [], h, _ => absurd h (by simp)
  | G :: l, h, ha => by
    unfold findM
    by_cases hG : G = F
    · subst hG; rw [if_pos ⟨hop, halu, hcc, hf⟩]
    · rw [if_neg fun k => hG (ha G (by simp) (k.1.trans hop.symm) (k.2.1.trans halu.symm) (k.2.2.1.trans hcc.symm))]
      exact findM_of hop halu hcc hf l (by simpa [Ne.symm hG] using h) fun G' hG' => ha G' (by simp [hG'])
theorem Tells.find {F : Form} {x : InsV} (h : Tells F x) : findM forms x = some F :=
  findM_of h.op h.alu h.cc h.fits forms h.mem fun G hG a b c => forms_apart G hG F h.mem a b c

theorem Tells.eq_iff {F G : Form} {x : InsV} (h : Tells F x) (h' : Tells G x) : F = G :=
  forms_apart F h.mem G h'.mem (h.op.trans h'.op.symm) (h.alu.trans h'.alu.symm) (h.cc.trans h'.cc.symm)

/-- How many bytes an instruction has. -/
def longs : List Nat := [0, 1, 1, 1, 1, 10, 5, 3, 3, 7, 7, 7, 7, 7, 4, 3, 4, 5, 5, 2, 2, 6, 6, 2]
def longM (x : InsV) : Nat := longs.getD x.op 0 + (if (x.op = 3 ∨ x.op = 4 ∨ x.op = 6) ∧ 7 < x.a then 1 else 0)
theorem pre_len : ∀ F ∈ forms, (∀ a < 16, ∀ b < 16, (preBytes (preF F.pre) a b).length + (if F.regs ≤ 1 then 1 else 2) + tailLen F.tail = longs.getD F.op 0 + (if (F.op = 3 ∨ F.op = 4 ∨ F.op = 6) ∧ 7 < a then 1 else 0)) := by decide +kernel
theorem Tells.long {F : Form} {x : InsV} (h : Tells F x) : (encM F x).length = longM x := by
  obtain ⟨p1, p2, p3, p4, p5⟩ := h.parts
  have reg : ∀ (r : Nat) (n : Bool), regOkM r n = true → r < 16 := by
    intro r n h
    cases n
    · simp only [regOkM, Bool.false_and, Bool.or_false, beq_iff_eq] at h; omega
    · simp only [regOkM, Bool.true_and, Bool.or_eq_true, beq_iff_eq, decide_eq_true_eq] at h; omega
  have hl := pre_len F h.mem x.a (reg _ _ p1) x.b (reg _ _ p2)
  unfold longM
  rw [← h.op, ← hl]
  unfold encM codeBytes
  simp only [List.length_append, leBytes_len']
  by_cases h0 : F.regs = 0
  · simp [h0]
  · by_cases h1 : F.regs = 1
    · simp [h1]
    · rw [if_neg h0, if_neg h1, if_neg (by omega)]; simp

theorem longs_bd : ∀ op < 24, 1 ≤ op → 1 ≤ longs.getD op 0 ∧ longs.getD op 0 + (if op = 3 ∨ op = 4 ∨ op = 6 then 1 else 0) ≤ 10 := by decide +kernel
theorem Tells.long_bd {F : Form} {x : InsV} (h : Tells F x) : 1 ≤ longM x ∧ longM x ≤ 10 := by
  have h1 : ∀ F ∈ forms, 1 ≤ F.op ∧ F.op < 24 := by decide +kernel
  obtain ⟨o1, o2⟩ := h1 F h.mem
  rw [h.op] at o1 o2
  obtain ⟨b1, b2⟩ := longs_bd x.op o2 o1
  unfold longM
  by_cases c : x.op = 3 ∨ x.op = 4 ∨ x.op = 6
  · rw [if_pos c] at b2
    split <;> omega
  · rw [if_neg (fun k => c k.1)]; omega

/-- Rows that are none. -/
def noRows : List (List Nat) := [[15], [64], [65, 144], [65, 195], [74], [79], [112], [127], [72, 144], [76, 184], [72, 137, 0], [72, 139, 192], [72, 139, 132], [73, 139, 5], [76, 131], [72, 131, 200], [72, 255, 208], [72, 193, 248], [255, 208], [72, 141, 128], [204], [72, 1, 5]]
theorem noRows_none : ∀ r ∈ noRows, ∀ G ∈ forms, (headRead G r).fit = 0 := by decide +kernel
theorem none_back (r : List Nat) (hr : r ∈ noRows) (more : List Nat) : decodeM forms 16 (r ++ more) = ⟨ins0, 0, 16⟩ := by
  refine decodeM_none forms 16 fun G hG => ?_
  have h := noRows_none r hr G hG
  unfold readM
  rw [headRead_more _ _ _ (by rw [h]; decide), if_pos (by rw [h]; decide)]
  exact h

end Go.Proofs.Ythbgmlmcjnlopaa
