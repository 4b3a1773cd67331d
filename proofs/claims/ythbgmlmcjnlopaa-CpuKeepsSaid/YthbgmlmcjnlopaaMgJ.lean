/- law 16: CpuKeeps, the walk. · law 16: CpuKeeps, the walk. -/
import Derived.Test.YthbgmlmcjnlopaaMgG
import Derived.Test.YthbgmlmcjnlopaaMgF
import Derived.Test.YthbgmlmcjnlopaaMgH
import Derived.Test.YthbgmlmcjnlopaaMgT
import Derived.Laws.OwnMore
import Derived.Deep.Cut
namespace Go.Proofs.Ythbgmlmcjnlopaa
open Go.ChangeShapes Go.WideShapes Go.ChangeAt Go.RowKit
set_option linter.unusedVariables false
set_option linter.unusedSimpArgs false
set_option maxRecDepth 100000

theorem infoU8K : (Try.prog.info? 5).map (fun i => (i.zero, i.size, i.bytes)) = some (some (.int .u8 0), 1, 1) := by kernel_rfl
/-- So many noughts as a text. -/
def noughtS (n : Nat) : ByteArray := strF (fun _ => 0) 0 n
theorem str_noughts {w : World} {g n cap : Nat} {f : Nat → Int} (h : Own w g n (fun q => .int .u8 (f q))) (hf : ∀ q, q < n → f q = 0) :
    (convert 24 9 (.slice (some ⟨g, 0, none⟩) n cap)).run Try.prog w = .ok (.string (noughtS n)) w :=
  run_str (f := fun _ => 0) (fun i hi => by rw [show (0 : Nat) + i = i by omega, (h.2 i hi).1]; show some (Value.int .u8 (f i)) = _; rw [hf i hi])
theorem made_noughts (W : World) (n : Nat) (h0 : 0 < n) (hn : n ≤ 65536) : ∃ w', (Instr.makeSlice 24 (.int .i64 (n : Int)) (.int .i64 (n : Int))).run Try.prog W = .ok (.slice (some ⟨W.heap.size, 0, none⟩) n n) w' ∧ W.grownBy w' none ∧ Own w' W.heap.size n (fun _ => .int .u8 0) := by
  obtain ⟨i, hi, hz0, hz1, hz2⟩ := info_parts infoU8K
  obtain ⟨w', h1, h2, h3⟩ := run_make_full (P := Try.prog) (w := W) W.heap.size 24 5 i (.int .u8 0) 1 Try.underlying24 hi hz0 hz1 .i64 .i64 n (by rw [hz2]; omega) (by unfold maxLen; omega) (Nat.le_refl _)
  refine ⟨w', h1, h3, ?_⟩
  obtain ⟨g', hA, _, ho⟩ := Own.of_own (f := fun _ => .int .u8 0) h2 h0 (fun i hi => by
    show (madeCells #[Value.int .u8 0] (n * 1)).toList[i]? = _
    rw [toList_madeCells_one, List.getElem?_replicate, if_pos (by omega)])
  injection hA with hA
  injection hA with hA
  subst hA
  exact ho
theorem made_mk (n : Nat) (h0 : 0 < n) (hn : n ≤ 65536) : ∃ mk : World → World, ∀ W : World, (Instr.makeSlice 24 (.int .i64 (n : Int)) (.int .i64 (n : Int))).run Try.prog W = .ok (.slice (some ⟨W.heap.size, 0, none⟩) n n) (mk W) ∧ Below W.heap.size W (mk W) ∧ (mk W).heap.size = (mk W).heap.size ∧
    (convert 24 9 (.slice (some ⟨W.heap.size, 0, none⟩) n n)).run Try.prog (mk W) = .ok (.string (noughtS n)) (mk W) :=
  ⟨fun W => (made_noughts W n h0 hn).choose, fun W => ⟨(made_noughts W n h0 hn).choose_spec.1, ⟨(made_noughts W n h0 hn).choose_spec.2.1.os, (made_noughts W n h0 hn).choose_spec.2.1.tape, (made_noughts W n h0 hn).choose_spec.2.1.output, (made_noughts W n h0 hn).choose_spec.2.1.size, fun i hi => (made_noughts W n h0 hn).choose_spec.2.1.block i hi (by simp)⟩, rfl, str_noughts (made_noughts W n h0 hn).choose_spec.2.2 (fun _ _ => rfl)⟩⟩
theorem txN_strF (bs : List Nat) : txN bs = strF (fun i => bF bs i) 0 bs.length := by
  unfold txN strF nL
  congr 1
  refine List.ext_getElem (by simp) fun i h1 h2 => ?_
  simp [bF, List.getD, List.getElem?_eq_getElem (show i < bs.length by simpa using h1)]
theorem page_text {f : Nat → Int} {bs : List Nat} (hl : bs.length ≤ 4096) (h1 : ∀ q, q < bs.length → f q = bF bs q) (h2 : ∀ q, bs.length ≤ q → q < 4096 → f q = 0) : strF f 0 4096 = txN bs ++ noughtS (4096 - bs.length) := by
  rw [show (4096 : Nat) = bs.length + (4096 - bs.length) by omega, ← strF_cat, txN_strF]
  congr 1
  · exact strF_congr fun i hi => by rw [Nat.zero_add]; exact h1 i hi
  · rw [show bs.length + (4096 - bs.length) - bs.length = 4096 - bs.length by omega]
    exact strF_congr fun i hi => by rw [Nat.zero_add]; exact h2 _ (by omega) (by omega)
def mp0K : Int → Option Pg := setP (setP noM 8192 4 1) 16384 1 1
theorem mp0K_ok : KpM mp0K := by
  refine ⟨(MpOk.none.set (by omega) (by omega) (by omega) 1 (by omega)).set (by omega) (by omega) (by omega) 1 (by omega), fun x g hg => ?_⟩
  unfold mp0K at hg
  rcases setP_some hg with ⟨i, _, _, h⟩ | hg
  · rw [h]; exact .inr rfl
  · rcases setP_some hg with ⟨i, _, _, h⟩ | hg
    · rw [h]; exact .inl rfl
    · cases hg
theorem mp0K_1 : mp0K 8192 = some ⟨4, fun _ => 0⟩ := by kernel_rfl
theorem mp0K_2 : mp0K 16384 = some ⟨1, fun _ => 0⟩ := by kernel_rfl
/-- The memory with its code. -/
structure KpC (mp : Int → Option Pg) (bs : List Nat) : Prop where
  kp : KpM mp
  p1 : protAt mp 8192 = some 4
  p2 : protAt mp 16384 = some 1
  code : ∀ q : Nat, q < 4096 → byteAt mp (8192 + q) = if q < bs.length then bF bs q else 0
  nou : ∀ q : Nat, q < 4096 → byteAt mp (16384 + q) = 0
theorem byteAt_of {mp : Int → Option Pg} {p x : Int} {g : Pg} (h : mp p = some g) (hx : x - x % 4096 = p) : byteAt mp x = g.dat (x % 4096).toNat := by
  unfold byteAt
  rw [hx, h]
theorem kpC_start {mp : Int → Option Pg} {bs : List Nat} (hl : bs.length ≤ 100) (hb : Bn bs) (h : mp = putP mp0K 8192 bs.length (fun i => bF bs i)) : KpC mp bs := by
  have hp : ∀ x, protAt mp x = protAt mp0K x := fun x => by rw [h]; exact protAt_put _ _ _ _ _
  have q1 : protAt mp0K 8192 = some 4 := by unfold protAt; rw [mp0K_1]; rfl
  have q2 : protAt mp0K 16384 = some 1 := by unfold protAt; rw [mp0K_2]; rfl
  refine ⟨by rw [h]; exact mp0K_ok.put _ _ (bn_bd' hb), by rw [hp, q1], by rw [hp, q2], fun q hq => ?_, fun q hq => ?_⟩
  · rw [h, byteAt_put (by rw [show (8192 + (q : Int)) - (8192 + (q : Int)) % 4096 = 8192 by omega, q1]; rfl)]
    by_cases c : q < bs.length
    · rw [if_pos (by omega), if_pos c, show (8192 + (q : Int) - 8192).toNat = q by omega]
    · rw [if_neg (by omega), if_neg c, byteAt_of mp0K_1 (by omega)]
  · rw [h, byteAt_put (by rw [show (16384 + (q : Int)) - (16384 + (q : Int)) % 4096 = 16384 by omega, q2]; rfl), if_neg (by omega), byteAt_of mp0K_2 (by omega)]
theorem KpC.fetch {mp : Int → Option Pg} {F : Form} {x : InsV} (h : KpC mp (encM F x)) (hx : Tells F x) (hl : (encM F x).length ≤ 100) {ip : Int} (hip : ip = 8192) :
    fetchM mp ip 12 [] = ⟨false, mp, x, (encM F x).length, 0, 0, 0⟩ := by
  subst hip
  refine fetch_tells hx (by omega) (by omega) (fun i hi => ?_) (fun i hi => ?_)
  · rw [ask_ok (p := 4) (by omega) (by omega) (by rw [show (8192 + (i : Int)) - (8192 + (i : Int)) % 4096 = 8192 by omega]; exact h.p1) (by decide) (by decide) (by omega)]
  · rw [h.code i (by omega), if_pos hi]; rfl
/-- A block beside the machine is written. -/
theorem Box.setFar {R : Nat → Prop} {w0 w : World} {C M m : Nat} {most : Int} {mp : Int → Option Pg} {s : StV} {fk fa : Int} (h : Box R w0 w C M m most mp s fk fa) {D o : Nat} (hD : R D) (hC : D ≠ C) (h0 : w0.heap.size ≤ D) (v : Value) : Box R w0 (w.setCell ⟨D, o, none⟩ v) C M m most mp s fk fa :=
  ⟨h.mem.setFar hD v, Own.setFar h.cpu (fun e => hC e.symm) v, h.rC, h.ok, h.sok, h.r0, h.kept.setCell (fun e => by have e' : D < w0.heap.size := e; omega) _, h.cC⟩
theorem own_zeros (w : World) (T : TypeId) (n : Nat) : Own (w.alloc (.cells (Array.replicate n (.int .u64 0)) T)) w.heap.size n (fun _ => .int .u64 0) := by
  refine ⟨by simp, fun i hi => ⟨?_, by simp [go_sem]⟩⟩
  have : (Array.replicate n (Value.int .u64 0))[i]? = some (.int .u64 0) := by simp [hi]
  simp [go_sem, this, hi]
theorem Own.blw {w w' : World} {g n : Nat} {f : Nat → Value} (h : Own w g n f) (hb : Below w.heap.size w w') : Own w' g n f := h.of_block (hb.block g h.1) hb.size
end Go.Proofs.Ythbgmlmcjnlopaa
namespace Go.Proofs.Ythbgmlmcjnlopaa
open Go.ChangeShapes Go.WideShapes Go.ChangeAt Go.RowKit
set_option linter.unusedVariables false
set_option linter.unusedSimpArgs false
set_option maxRecDepth 100000

set_option maxHeartbeats 4000000 in
theorem keeps_core (w : World) (o a b l c d : Int) (I : Nat) (hI : I < 18446744073709551616) (A : Option Addr) (n cap : Nat) (Z : Nat → Nat) (hn : n ≤ 9223372036854775807) (hZ : ∀ i, Z i < 18446744073709551616) (hA : NumsU w A n Z) :
    Calls Try.prog 6 #[.agg #[.int .i64 o, .int .i64 a, .int .i64 b, .int .i64 l, .int .i64 c, .int .u64 I, .int .i64 d], .slice A n cap] w fun e w' => e = .returned (.bool true) ∧ Below w.heap.size w w' := by
  have HZ := Lib.hid hZ
  have HA := Lib.hid hA
  have HI := Lib.hid hI
  clear hZ hA hI
  go_enter Try.func6, Try.ntmps6
  go_wp2_with fail
  obtain ⟨w0, hw0⟩ : ∃ w0, w.alloc (.cells #[.int .i64 o, .int .i64 a, .int .i64 b, .int .i64 l, .int .i64 c, .int .u64 I, .int .i64 d] 27) = w0 := ⟨_, rfl⟩
  have HX := Lib.hid (show w0.heap[w.heap.size]? = some (.cells #[.int .i64 o, .int .i64 a, .int .i64 b, .int .i64 l, .int .i64 c, .int .u64 I, .int .i64 d] 27 (0, 0)) from by rw [← hw0]; exact heap_alloc_new w _)
  have HB0 := Lib.hid (show Below w.heap.size w w0 from by rw [← hw0]; exact (Below.refl _ _).alloc (Nat.le_refl _) _)
  have HL0 := Lib.hid (show w.heap.size < w0.heap.size from by rw [← hw0]; simp)
  rw [hw0]
  clear hw0
  have HA0 := Lib.hid (HA.out.kept (Kept.of_below HB0.out (fun k hk => hk)))
  clear HA
  refine (mem0_new w0 2 (by omega) (by omega)).mono ?_
  rintro e w1 ⟨M, rfl, h1⟩
  have H1 := Lib.hid h1
  clear h1
  go_wp2_with fail
  refine (mem0_map H1.out 8192 4 1 (by omega) ⟨by decide, by omega, by omega, by omega⟩ (by omega) (by omega) (fun i _ => rfl) (by omega) (by omega)).mono ?_
  rintro e w2 ⟨rfl, h2⟩
  have H2 := Lib.hid h2
  clear h2 H1
  go_wp2_with fail
  refine (mem0_map H2.out 16384 1 1 (by omega) ⟨by decide, by omega, by omega, by omega⟩ (by omega) (by omega) (fun i hi => by (obtain rfl : i = 0 := by omega); kernel_rfl) (by omega) (by omega)).mono ?_
  rintro e w3 ⟨rfl, h3⟩
  have H3 := Lib.hid (show Mem0 _ w0 w3 M (0 + 1 + 1) 2 mp0K from h3)
  clear h3 H2
  have hx3 := (H3.out.kept.block w.heap.size HL0.out).trans HX.out
  have c0 : w3.cell? ⟨w.heap.size, 0, none⟩ = some (.int .i64 o) := by rw [cell_of_row' hx3]; rfl
  have c1 : w3.cell? ⟨w.heap.size, 1, none⟩ = some (.int .i64 a) := by rw [cell_of_row' hx3]; rfl
  have c2 : w3.cell? ⟨w.heap.size, 2, none⟩ = some (.int .i64 b) := by rw [cell_of_row' hx3]; rfl
  have c3 : w3.cell? ⟨w.heap.size, 3, none⟩ = some (.int .i64 l) := by rw [cell_of_row' hx3]; rfl
  have c4 : w3.cell? ⟨w.heap.size, 4, none⟩ = some (.int .i64 c) := by rw [cell_of_row' hx3]; rfl
  have c5 : w3.cell? ⟨w.heap.size, 5, none⟩ = some (.int .u64 I) := by rw [cell_of_row' hx3]; rfl
  have c6 : w3.cell? ⟨w.heap.size, 6, none⟩ = some (.int .i64 d) := by rw [cell_of_row' hx3]; rfl
  clear hx3
  --M1
  go_wp2_with fail
  refine (tame_any o a b l c d I HI.out w3).mono ?_
  rintro e w4 ⟨⟨F, y, hT, hOk, rfl⟩, hb4⟩
  have HT := Lib.hid hT
  have HK := Lib.hid hOk
  have H4 := Lib.hid (H3.out.below hb4)
  clear hT hOk hb4 H3 c0 c1 c2 c3 c4 c5 c6
  go_wp2_with fail
  refine (encS HT.out _ rfl ⟨HK.out.d0, by have := HK.out.d1; omega⟩ w4).mono ?_
  rintro e w5 ⟨S, rfl, hS, hSz, hb5⟩
  have H5 := Lib.hid (H4.out.below hb5)
  have hlen : 1 ≤ (encM F y).length ∧ (encM F y).length ≤ 10 := by rw [HT.out.long]; exact HT.out.long_bd
  obtain ⟨bs, hbs⟩ : ∃ bs, encM F y = bs := ⟨_, rfl⟩
  obtain ⟨k, hk⟩ : ∃ k, bs.length = k := ⟨_, rfl⟩
  have HBN := Lib.hid (show Bn bs from by rw [← hbs]; exact HT.out.bn)
  rw [hbs, hk] at hlen hSz
  rw [hbs] at hS
  have HBS := Lib.hid hbs
  have HS := Lib.hid hS
  have HKL := Lib.hid hk
  have HLEN := Lib.hid hlen
  clear hbs hb5 H4
  obtain ⟨Cv, wv, hcv, hov, hbv, hc1, hc2⟩ := conv_txN w5 bs HBN.out (by omega)
  rw [← hS, hk] at hcv
  rw [hk] at hov hc1
  have HOV := Lib.hid hov
  have HC := Lib.hid (And.intro hc1 hc2)
  have HV := Lib.hid (H5.out.below hbv)
  clear hS hk hov hbv hc1 hc2
  --M2
  go_wp2_with fail
  refine (mem0_poke HV.out 8192 _ k Cv (fun i => bF bs i) (by omega) (by omega) (by omega) HC.out.1 HC.out.2 (fun j j0 j1 => ?_) (.inr ⟨w5.heap.size, 0, rfl, .inr ⟨Nat.le_refl _, HOV.out.1⟩, fun j hj => by rw [Nat.zero_add, HOV.out.cell hj]⟩) (bn_bd' HBN.out)).mono ?_
  · rw [show (8192 : Int) + j - (8192 + j) % 4096 = 8192 by omega, mp0K_1]
    exact fun h => nomatch h
  rintro e w6 ⟨rfl, h6, _⟩
  obtain ⟨mp, hmp⟩ : ∃ mp, putP mp0K 8192 k (fun i => bF bs i) = mp := ⟨_, rfl⟩
  rw [hmp] at h6
  have HKP := Lib.hid (kpC_start (mp := mp) (bs := bs) (by rw [HKL.out]; omega) HBN.out (by rw [HKL.out, hmp]))
  have H6 := Lib.hid h6
  clear h6 hmp hcv HOV HC HV H5
  go_wp2_with fail
  refine (mem0_cpu H6.out).mono ?_
  rintro e w7 ⟨C, _, _, rfl, h7⟩
  have H7 := Lib.hid h7
  clear h7 H6
  go_wp2_with fail
  refine (box_jump H7.out 8192 (by omega) (by omega)).mono ?_
  rintro e w8 ⟨rfl, h8, _⟩
  have HR8 := Lib.hid (show ∃ s : StV, Box _ w0 w8 C M (0 + 1 + 1) 2 mp s 0 0 ∧ s.ip = 8192 from ⟨_, h8, rfl⟩)
  clear h8 H7
  go_wp2_with fail
  --M3
  obtain ⟨R, hr9⟩ : ∃ R, ∃ s : StV, Box R w0 w8 C M (0 + 1 + 1) 2 mp s 0 0 ∧ s.ip = 8192 := ⟨_, HR8.out⟩
  have HR9 := Lib.hid hr9
  clear hr9 HR8
  go_loopw [8] (fun v8 wr => ∃ j : Nat, j ≤ 16 ∧ v8 = .int .i64 j ∧ ∃ s : StV, Box R w0 wr C M (0 + 1 + 1) 2 mp s 0 0 ∧ s.ip = 8192) (fun v8 _ => 16 - (intOf v8).toNat)
  case atStart => exact ⟨0, by omega, rfl, HR9.out⟩
  case round =>
    clear HR9
    obtain ⟨j, hj, rfl, s, hbx, hip⟩ := hrel
    have HBX := Lib.hid hbx
    have HIP := Lib.hid hip
    clear hbx hip
    by_cases hlt : j < 16
    · by_cases hjn : j < n
      · have hz := HZ.out j
        obtain ⟨b', off, rfl, hcl⟩ : ∃ b' off, A = some ⟨b', off, none⟩ ∧ wr.cell? ⟨b', off + j, none⟩ = some (.int .u64 (Z j)) := by
          rcases HA0.out.kept HBX.out.kept with h | ⟨b', off, h1, _, h2⟩
          · omega
          · exact ⟨b', off, h1, h2 j (by omega)⟩
        go_wp2_with fail
        refine (box_put HBX.out j hlt (Z j) (by omega) (by omega)).mono ?_
        rintro e w9 ⟨rfl, h9, _⟩
        have H9 := Lib.hid h9
        clear h9 HBX hcl
        go_wp2_with fail
        go_roundw
        case rel => exact ⟨j + 1, by omega, by go_num, _, H9.out, HIP.out⟩
        case measure => simp [intOf]; omega
      · go_wp2_with fail
        refine (box_put HBX.out j hlt (16384 + 16 * (j : Int)) (by omega) (by omega)).mono ?_
        rintro e w9 ⟨rfl, h9, _⟩
        have H9 := Lib.hid h9
        clear h9 HBX
        go_wp2_with fail
        go_roundw
        case rel => exact ⟨j + 1, by omega, by go_num, _, H9.out, HIP.out⟩
        case measure => simp [intOf]; omega
    · obtain rfl : j = 16 := by omega
      --M4
      go_wp2_with fail
      simp only [Int.cast_ofNat_Int]
      obtain ⟨wd, hwd⟩ : ∃ wd, wr.alloc (.cells #[.int .u64 0, .int .u64 0, .int .u64 0, .int .u64 0, .int .u64 0, .int .u64 0, .int .u64 0, .int .u64 0, .int .u64 0, .int .u64 0, .int .u64 0, .int .u64 0, .int .u64 0, .int .u64 0, .int .u64 0, .int .u64 0] 55) = wd := ⟨_, rfl⟩
      obtain ⟨D, hD⟩ : ∃ D, wr.heap.size = D := ⟨_, rfl⟩
      have hod : Own wd D 16 (fun _ => .int .u64 0) := by
        rw [← hwd, ← hD]
        exact own_zeros wr 55 16
      have hba := HBX.out.alloc (.cells #[.int .u64 0, .int .u64 0, .int .u64 0, .int .u64 0, .int .u64 0, .int .u64 0, .int .u64 0, .int .u64 0, .int .u64 0, .int .u64 0, .int .u64 0, .int .u64 0, .int .u64 0, .int .u64 0, .int .u64 0, .int .u64 0] 55)
      have hlt' : wr.heap.size < (wr.alloc (.cells #[.int .u64 0, .int .u64 0, .int .u64 0, .int .u64 0, .int .u64 0, .int .u64 0, .int .u64 0, .int .u64 0, .int .u64 0, .int .u64 0, .int .u64 0, .int .u64 0, .int .u64 0, .int .u64 0, .int .u64 0, .int .u64 0] 55)).heap.size := by simp
      have hcc := HBX.out.lt C HBX.out.rC
      have hww := HBX.out.kept.size
      rw [hwd, hD] at hba
      rw [hwd, hD] at hlt'
      rw [hD] at hcc hww
      obtain ⟨R2, hbd, hRD, hDC, hD0⟩ : ∃ R2, Box R2 w0 wd C M (0 + 1 + 1) 2 mp s 0 0 ∧ R2 D ∧ D ≠ C ∧ w0.heap.size ≤ D := ⟨_, hba, Or.inr ⟨Nat.le_refl _, hlt'⟩, by omega, hww⟩
      clear hba hlt' hcc hww
      have HDF := Lib.hid (And.intro hRD (And.intro hDC hD0))
      have HRD := Lib.hid (show Box R2 w0 wd C M (0 + 1 + 1) 2 mp s 0 0 ∧ Own wd D 16 (fun _ => .int .u64 0) from ⟨hbd, hod⟩)
      rw [hwd, hD]
      clear hwd hD hod hbd hRD hDC hD0 HBX
      go_loopw [11] (fun v11 wr => ∃ j : Nat, j ≤ 16 ∧ v11 = .int .i64 j ∧ Box R2 w0 wr C M (0 + 1 + 1) 2 mp s 0 0 ∧ Own wr D 16 (fun i => if i < j then .int .u64 (s.r i) else .int .u64 0)) (fun v11 _ => 16 - (intOf v11).toNat)
      case atStart => exact ⟨0, by omega, rfl, HRD.out.1, HRD.out.2.congr (fun i hi => by rw [if_neg (by omega)])⟩
      case round =>
        clear HRD
        obtain ⟨j, hj, rfl, hbx, hod⟩ := hrel
        have HBX := Lib.hid hbx
        have HOD := Lib.hid hod
        clear hbx hod
        by_cases hlt : j < 16
        · go_wp2_with fail
          --M5
          have hcl := HOD.out.cell (i := j) hlt
          have hfz := Own.frozen HOD.out (i := j) hlt
          refine (box_reg HBX.out j hlt (s.r j) rfl).mono ?_
          rintro e w9 ⟨rfl, rfl⟩
          have h9 := HBX.out.setFar (o := j) HDF.out.1 HDF.out.2.1 HDF.out.2.2 (.int .u64 (s.r j))
          have ho9 := (Own.set HOD.out (i := j) hlt (.int .u64 (s.r j))).congr (f' := fun i => if i < j + 1 then .int .u64 (s.r i) else .int .u64 0) (fun i hi => by
            by_cases e : i = j
            · subst e; rw [if_pos rfl, if_pos (by omega)]
            · rw [if_neg e]
              by_cases c : i < j
              · rw [if_pos c, if_pos (by omega)]
              · rw [if_neg c, if_neg (by omega)])
          have H9 := Lib.hid h9
          have HO9 := Lib.hid ho9
          clear h9 ho9
          go_wp2
          generalize w9.setCell ⟨D, j, none⟩ (.int .u64 (s.r j)) = w10 at *
          clear hcl hfz HBX HOD
          go_roundw
          case rel => exact ⟨j + 1, by omega, by go_num, H9.out, HO9.out⟩
          case measure => simp [intOf]; omega
        · obtain rfl : j = 16 := by omega
          have HO16 := Lib.hid (HOD.out.congr (f' := fun i => .int .u64 (s.r i)) (fun i hi => by rw [if_pos hi]))
          clear HOD
          go_wp2_with fail
          --M6
          refine (getFlags_any wr C M _ _ _ HBX.out.cpu).mono ?_
          rintro e w11 ⟨rfl, hb11⟩
          have H11 := Lib.hid (HBX.out.below hb11)
          have HO11 := Lib.hid (HO16.out.blw hb11)
          clear hb11 HBX HO16
          go_wp2_with fail
          --M7
          obtain ⟨W, hW⟩ : ∃ W, w11.alloc (.cells #[.bool s.z, .bool s.s, .bool s.c, .bool s.o] 43) = W := ⟨_, rfl⟩
          obtain ⟨G, hG⟩ : ∃ G, w11.heap.size = G := ⟨_, rfl⟩
          have hb12 := H11.out.alloc (.cells #[.bool s.z, .bool s.s, .bool s.c, .bool s.o] 43)
          have hz12 := heap_alloc_new w11 (.cells #[.bool s.z, .bool s.s, .bool s.c, .bool s.o] 43)
          have hl12 : w11.heap.size < (w11.alloc (.cells #[.bool s.z, .bool s.s, .bool s.c, .bool s.o] 43)).heap.size := by simp
          have hcd := H11.out.lt C H11.out.rC
          have hdd := HO11.out.1
          have hod12 := HO11.out.blw (show Below w11.heap.size w11 (w11.alloc (.cells #[.bool s.z, .bool s.s, .bool s.c, .bool s.o] 43)) from (Below.refl _ _).alloc (Nat.le_refl _) _)
          rw [hW, hG] at hb12
          rw [hW, hG] at hz12
          rw [hW, hG] at hl12
          rw [hW] at hod12
          rw [hG] at hcd hdd
          obtain ⟨R3, hb13, hRG, hRD⟩ : ∃ R3, Box R3 w0 W C M (0 + 1 + 1) 2 mp s 0 0 ∧ R3 G ∧ R3 D := ⟨_, hb12, Or.inr ⟨Nat.le_refl _, hl12⟩, Or.inl HDF.out.1⟩
          have H12 := Lib.hid hb13
          have HZ12 := Lib.hid hz12
          have HO12 := Lib.hid hod12
          have HGD := Lib.hid (And.intro hRG (And.intro (show G ≠ C by omega) (And.intro hRD HDF.out.2.1)))
          rw [hW, hG]
          clear hb12 hz12 hl12 hcd hdd hod12 hb13 hRG hRD hW hG H11 HO11
          obtain ⟨nn, ee, s', fk, fa, hks, hcall⟩ := kp_box H12.out HKP.out.kp (x := y) (n := (encM F y).length) (by rw [← HBS.out] at HKP; exact HKP.out.fetch HT.out (by rw [HBS.out, HKL.out]; have := HLEN.out; omega) HIP.out) (by have := HK.out.a; omega) (by have := HK.out.b; omega) HK.out.imm
          have HKS := Lib.hid hks
          clear hks
          refine hcall.mono ?_
          rintro e w13 ⟨rfl, h13, hk13⟩
          have H13 := Lib.hid h13
          have HO13 := Lib.hid (hk13.own HO12.out ⟨HGD.out.2.2.1, HGD.out.2.2.2⟩)
          have HZ13 := Lib.hid ((hk13.block G ⟨HGD.out.1, HGD.out.2.1⟩).trans HZ12.out)
          clear h13 hk13 hcall H12 HO12 HZ12
          go_wp2_with fail
          --M8
          refine (peek_yes R3 w13 M (0 + 1 + 1) 2 mp 8192 4096 (by omega) (by omega) (by omega) (fun i i0 i1 => by
            have := HKP.out.p1
            rw [show (8192 : Int) + i - (8192 + i) % 4096 = 8192 by omega]
            intro h
            unfold protAt at this
            rw [h] at this
            cases this) H13.out.mem).mono ?_
          rintro e w14 ⟨rfl, hb14, ho14⟩
          have H14 := Lib.hid (H13.out.below hb14)
          have HO14 := Lib.hid (HO13.out.blw hb14)
          have HZ14 := Lib.hid ((hb14.block G (lt_of_row' HZ13.out)).trans HZ13.out)
          have HP14 := Lib.hid ho14
          generalize w13.heap.size = g1 at *
          clear hb14 ho14 H13 HO13 HZ13
          go_wp2_with fail
          refine (peek_yes R3 w14 M (0 + 1 + 1) 2 mp 16384 4096 (by omega) (by omega) (by omega) (fun i i0 i1 => by
            have := HKP.out.p2
            rw [show (16384 : Int) + i - (16384 + i) % 4096 = 16384 by omega]
            intro h
            unfold protAt at this
            rw [h] at this
            cases this) H14.out.mem).mono ?_
          rintro e w15 ⟨rfl, hb15, ho15⟩
          have H15 := Lib.hid (H14.out.below hb15)
          have HO15 := Lib.hid (HO14.out.blw hb15)
          have HZ15 := Lib.hid ((hb15.block G (lt_of_row' HZ14.out)).trans HZ14.out)
          have HP15 := Lib.hid (HP14.out.blw hb15)
          have HQ15 := Lib.hid ho15
          generalize w14.heap.size = g2 at *
          clear hb15 ho15 H14 HO14 HZ14 HP14
          --M9
          have hk10 := HLEN.out
          obtain ⟨m, hm⟩ : ∃ m : Nat, 4096 - k = m := ⟨_, rfl⟩
          have hm0 : 0 < m ∧ m ≤ 4096 := by omega
          have hns : (noughtS m).size = m := strF_size _ _ _
          have hwm : IntKind.i64.wrap (4096 - (k : Int)) = (m : Int) := by rw [IntKind.wrap_i64]; omega
          have hwm2 : wrap64 (4096 - (k : Int)) = (m : Int) := by unfold wrap64; omega
          have HSA := Lib.hid (fun (W : World) (hW : Below w15.heap.size w15 W) => show (convert 24 9 (.slice (some ⟨g1, 0, none⟩) (4096 : Nat) 4096)).run Try.prog W = .ok (.string (S ++ noughtS m)) W from by
            have h1 := HP15.out.blw hW
            have h2 := run_str (w := W) (b := g1) (off := 0) (n := 4096) (cap := 4096) (f := fun q => byteAt mp (8192 + q)) (fun i hi => by rw [Nat.zero_add]; exact h1.cell hi)
            rw [h2, page_text (f := fun q : Nat => byteAt mp (8192 + q)) (bs := bs) (by rw [HKL.out]; omega) (fun q hq => by
              rw [HKP.out.code q (by rw [HKL.out] at hq; omega), if_pos hq]) (fun q h1 h2 => by rw [HKP.out.code q h2, if_neg (by omega)]), ← HS.out, HKL.out, hm])
          have HSB := Lib.hid (fun (W : World) (hW : Below w15.heap.size w15 W) => show (convert 24 9 (.slice (some ⟨g2, 0, none⟩) (4096 : Nat) 4096)).run Try.prog W = .ok (.string (noughtS 4096)) W from
            str_noughts (HQ15.out.blw hW) (fun q hq => HKP.out.nou q hq))
          have hadd := fun (W : World) => run_string_add_sum (P := Try.prog) W S (noughtS m) (by omega)
          obtain ⟨mk1, hmk1⟩ := made_mk m hm0.1 (by omega)
          obtain ⟨mk2, hmk2⟩ := made_mk 4096 (by omega) (by omega)
          have p1 : ((S ++ noughtS m).toList == (S ++ noughtS m).toList) = true := by simp
          have p2 : ((noughtS 4096).toList == (noughtS 4096).toList) = true := by simp
          have m1 := (hmk1 w15.drew).1
          have b1 := (hmk1 w15.drew).2.1
          have s1 := (hmk1 w15.drew).2.2.2
          have HMK2 := Lib.hid hmk2
          clear hmk1 hmk2 hk10 hm0 hm
          rw [show w15.drew.heap.size = w15.heap.size from rfl] at m1 b1 s1
          generalize mk1 w15.drew = w16 at *
          have HS16 := Lib.hid (show Below w15.heap.size w15 w16 from (Below.refl _ _).drew.trans b1)
          clear b1
          have m2 := (HMK2.out w16).1
          have b2 := (HMK2.out w16).2.1
          have s2 := (HMK2.out w16).2.2.2
          generalize mk2 w16 = w17 at *
          simp only [Int.cast_ofNat_Int] at m2
          have HS17 := Lib.hid (HS16.out.trans (b2.mono HS16.out.size))
          clear b2 HMK2
          go_upto_region 27 with (fail)
          --M10
          have HS := Lib.hid (show Below w15.heap.size w15 w15.drew from (Below.refl _ _).drew)
          refine wp_region_noPanic ?_
          refine wp_region_K (fun W => Below w15.heap.size w15 W) (fun _ => True) 99 (by kernel_rfl) ?_
          refine wpAnyK_take (i := 0) (oi := ?_) (v := ?_) ?_ (by kernel_rfl) (by kernel_rfl) (by kernel_rfl) (fun _ _ _ h => h) (by decide) ?_ HS.out (fun _ => trivial) ?_
          rotate_left 2
          · (simp only [List.getElem?_toArray, List.getElem?_cons_succ, List.getElem?_cons_zero]; rfl)
          · (first | exact Or.inr ⟨by rfl, rfl⟩ | (refine Or.inl ⟨by rfl, ?_⟩; intro W hSw; clear hSw; go_simp; try with_reducible rfl))
          try simp only [Act.put, List.setIfInBounds_toArray, List.set_cons_zero, List.set_cons_succ]
          refine wpAnyK_take (i := 1) (oi := ?_) (v := ?_) ?_ (by kernel_rfl) (by kernel_rfl) (by kernel_rfl) (fun _ _ _ h => h) (by decide) ?_ HS.out (fun _ => trivial) ?_
          rotate_left 2
          · (simp only [List.getElem?_toArray, List.getElem?_cons_succ, List.getElem?_cons_zero]; rfl)
          · (first | exact Or.inr ⟨by rfl, rfl⟩ | (refine Or.inl ⟨by rfl, ?_⟩; intro W hSw; clear hSw; go_simp; try with_reducible rfl))
          try simp only [Act.put, List.setIfInBounds_toArray, List.set_cons_zero, List.set_cons_succ]
          refine wpAnyK_take (i := 2) (oi := ?_) (v := ?_) ?_ (by kernel_rfl) (by kernel_rfl) (by kernel_rfl) (fun _ _ _ h => h) (by decide) ?_ HS.out (fun _ => trivial) ?_
          rotate_left 2
          · (simp only [List.getElem?_toArray, List.getElem?_cons_succ, List.getElem?_cons_zero]; rfl)
          · (first | exact Or.inr ⟨by rfl, rfl⟩ | (refine Or.inl ⟨by rfl, ?_⟩; intro W hSw; clear hSw; go_simp; try with_reducible rfl))
          try simp only [Act.put, List.setIfInBounds_toArray, List.set_cons_zero, List.set_cons_succ]
          refine wpAnyK_take (i := 3) (oi := ?_) (v := ?_) ?_ (by kernel_rfl) (by kernel_rfl) (by kernel_rfl) (fun _ _ _ h => h) (by decide) ?_ HS.out (fun _ => trivial) ?_
          rotate_left 2
          · (simp only [List.getElem?_toArray, List.getElem?_cons_succ, List.getElem?_cons_zero]; rfl)
          · (first | exact Or.inr ⟨by rfl, rfl⟩ | (refine Or.inl ⟨by rfl, ?_⟩; intro W hSw; clear hSw; go_simp; try with_reducible rfl))
          try simp only [Act.put, List.setIfInBounds_toArray, List.set_cons_zero, List.set_cons_succ]
          refine wpAnyK_take (i := 4) (oi := ?_) (v := ?_) ?_ (by kernel_rfl) (by kernel_rfl) (by kernel_rfl) (fun _ _ _ h => h) (by decide) ?_ HS.out (fun _ => trivial) ?_
          rotate_left 2
          · (simp only [List.getElem?_toArray, List.getElem?_cons_succ, List.getElem?_cons_zero]; rfl)
          · (first | exact Or.inr ⟨by rfl, rfl⟩ | (refine Or.inl ⟨by rfl, ?_⟩; intro W hSw; clear hSw; go_simp; try with_reducible rfl))
          try simp only [Act.put, List.setIfInBounds_toArray, List.set_cons_zero, List.set_cons_succ]
          refine wpAnyK_take (i := 5) (oi := ?_) (v := ?_) ?_ (by kernel_rfl) (by kernel_rfl) (by kernel_rfl) (fun _ _ _ h => h) (by decide) ?_ HS.out (fun _ => trivial) ?_
          rotate_left 2
          · (simp only [List.getElem?_toArray, List.getElem?_cons_succ, List.getElem?_cons_zero]; rfl)
          · (first | exact Or.inr ⟨by rfl, rfl⟩ | (refine Or.inl ⟨by rfl, ?_⟩; intro W hSw; clear hSw; go_simp; try with_reducible rfl))
          try simp only [Act.put, List.setIfInBounds_toArray, List.set_cons_zero, List.set_cons_succ]
          refine wpAnyK_take (i := 6) (oi := ?_) (v := ?_) ?_ (by kernel_rfl) (by kernel_rfl) (by kernel_rfl) (fun _ _ _ h => h) (by decide) ?_ HS.out (fun _ => trivial) ?_
          rotate_left 2
          · (simp only [List.getElem?_toArray, List.getElem?_cons_succ, List.getElem?_cons_zero]; rfl)
          · (first | exact Or.inr ⟨by rfl, rfl⟩ | (refine Or.inl ⟨by rfl, ?_⟩; intro W hSw; clear hSw; go_simp; try with_reducible rfl))
          try simp only [Act.put, List.setIfInBounds_toArray, List.set_cons_zero, List.set_cons_succ]
          refine wpAnyK_take (i := 7) (oi := ?_) (v := ?_) ?_ (by kernel_rfl) (by kernel_rfl) (by kernel_rfl) (fun _ _ _ h => h) (by decide) ?_ HS.out (fun _ => trivial) ?_
          rotate_left 2
          · (simp only [List.getElem?_toArray, List.getElem?_cons_succ, List.getElem?_cons_zero]; rfl)
          · (first | exact Or.inr ⟨by rfl, rfl⟩ | (refine Or.inl ⟨by rfl, ?_⟩; intro W hSw; clear hSw; go_simp; try with_reducible rfl))
          try simp only [Act.put, List.setIfInBounds_toArray, List.set_cons_zero, List.set_cons_succ]
          refine wpAnyK_take (i := 8) (oi := ?_) (v := ?_) ?_ (by kernel_rfl) (by kernel_rfl) (by kernel_rfl) (fun _ _ _ h => h) (by decide) ?_ HS.out (fun _ => trivial) ?_
          rotate_left 2
          · (simp only [List.getElem?_toArray, List.getElem?_cons_succ, List.getElem?_cons_zero]; rfl)
          · (first | exact Or.inr ⟨by rfl, rfl⟩ | (refine Or.inl ⟨by rfl, ?_⟩; intro W hSw; have hq := HSA.out W hSw; clear hSw; go_simp; try with_reducible rfl))
          try simp only [Act.put, List.setIfInBounds_toArray, List.set_cons_zero, List.set_cons_succ]
          refine wpAnyK_take (i := 9) (oi := ?_) (v := ?_) ?_ (by kernel_rfl) (by kernel_rfl) (by kernel_rfl) (fun _ _ _ h => h) (by decide) ?_ HS.out (fun _ => trivial) ?_
          rotate_left 2
          · (simp only [List.getElem?_toArray, List.getElem?_cons_succ, List.getElem?_cons_zero]; rfl)
          · (first | exact Or.inr ⟨by rfl, rfl⟩ | (refine Or.inl ⟨by rfl, ?_⟩; intro W hSw; clear hSw; go_simp; try with_reducible rfl))
          try simp only [Act.put, List.setIfInBounds_toArray, List.set_cons_zero, List.set_cons_succ]
          refine wpAnyK_take (i := 10) (oi := ?_) (v := ?_) ?_ (by kernel_rfl) (by kernel_rfl) (by kernel_rfl) (fun _ _ _ h => h) (by decide) ?_ HS.out (fun _ => trivial) ?_
          rotate_left 2
          · (simp only [List.getElem?_toArray, List.getElem?_cons_succ, List.getElem?_cons_zero]; rfl)
          · (first | exact Or.inr ⟨by rfl, rfl⟩ | (refine Or.inl ⟨by rfl, ?_⟩; intro W hSw; clear hSw; go_simp; try with_reducible rfl))
          try simp only [Act.put, List.setIfInBounds_toArray, List.set_cons_zero, List.set_cons_succ]
          refine wpAnyK_take (i := 11) (oi := ?_) (v := ?_) ?_ (by kernel_rfl) (by kernel_rfl) (by kernel_rfl) (fun _ _ _ h => h) (by decide) ?_ HS.out (fun _ => trivial) ?_
          rotate_left 2
          · (simp only [List.getElem?_toArray, List.getElem?_cons_succ, List.getElem?_cons_zero]; rfl)
          · (first | exact Or.inr ⟨by rfl, rfl⟩ | (refine Or.inl ⟨by rfl, ?_⟩; intro W hSw; clear hSw; go_simp; try with_reducible rfl))
          try simp only [Act.put, List.setIfInBounds_toArray, List.set_cons_zero, List.set_cons_succ]
          refine wpAnyK_take (i := 12) (oi := ?_) (v := ?_) ?_ (by kernel_rfl) (by kernel_rfl) (by kernel_rfl) (fun _ _ _ h => h) (by decide) ?_ HS.out (fun _ => trivial) ?_
          rotate_left 2
          · (simp only [List.getElem?_toArray, List.getElem?_cons_succ, List.getElem?_cons_zero]; rfl)
          · (first | exact Or.inr ⟨by rfl, rfl⟩ | (refine Or.inl ⟨by rfl, ?_⟩; intro W hSw; clear hSw; go_simp; try with_reducible rfl))
          try simp only [Act.put, List.setIfInBounds_toArray, List.set_cons_zero, List.set_cons_succ]
          refine wpAnyK_one (i := 13) (o := ?_) (by kernel_rfl) ?_ (fun K hK => ?_)
          rotate_left 1
          · (simp only [List.getElem?_toArray, List.getElem?_cons_succ, List.getElem?_cons_zero]; rfl)
          go_simp
          refine hK.out _ _ HS16.out (fun _ => trivial) ?_
          clear hK K
          try simp only [Act.put, List.setIfInBounds_toArray, List.set_cons_zero, List.set_cons_succ]
          refine wpAnyK_one (i := 14) (o := ?_) (by kernel_rfl) ?_ (fun K hK => ?_)
          rotate_left 1
          · (simp only [List.getElem?_toArray, List.getElem?_cons_succ, List.getElem?_cons_zero]; rfl)
          go_simp
          refine hK.out _ _ HS16.out (fun _ => trivial) ?_
          clear hK K
          try simp only [Act.put, List.setIfInBounds_toArray, List.set_cons_zero, List.set_cons_succ]
          refine wpAnyK_take (i := 15) (oi := ?_) (v := ?_) ?_ (by kernel_rfl) (by kernel_rfl) (by kernel_rfl) (fun _ _ _ h => h) (by decide) ?_ HS16.out (fun _ => trivial) ?_
          rotate_left 2
          · (simp only [List.getElem?_toArray, List.getElem?_cons_succ, List.getElem?_cons_zero]; rfl)
          · (first | exact Or.inr ⟨by rfl, rfl⟩ | (refine Or.inl ⟨by rfl, ?_⟩; intro W hSw; clear hSw; go_simp; try with_reducible rfl))
          try simp only [Act.put, List.setIfInBounds_toArray, List.set_cons_zero, List.set_cons_succ]
          refine wpAnyK_take (i := 16) (oi := ?_) (v := ?_) ?_ (by kernel_rfl) (by kernel_rfl) (by kernel_rfl) (fun _ _ _ h => h) (by decide) ?_ HS16.out (fun _ => trivial) ?_
          rotate_left 2
          · (simp only [List.getElem?_toArray, List.getElem?_cons_succ, List.getElem?_cons_zero]; rfl)
          · (first | exact Or.inr ⟨by rfl, rfl⟩ | (refine Or.inl ⟨by rfl, ?_⟩; intro W hSw; clear hSw; go_simp; try with_reducible rfl))
          try simp only [Act.put, List.setIfInBounds_toArray, List.set_cons_zero, List.set_cons_succ]
          refine wpAnyK_take (i := 17) (oi := ?_) (v := ?_) ?_ (by kernel_rfl) (by kernel_rfl) (by kernel_rfl) (fun _ _ _ h => h) (by decide) ?_ HS16.out (fun _ => trivial) ?_
          rotate_left 2
          · (simp only [List.getElem?_toArray, List.getElem?_cons_succ, List.getElem?_cons_zero]; rfl)
          · (first | exact Or.inr ⟨by rfl, rfl⟩ | (refine Or.inl ⟨by rfl, ?_⟩; intro W hSw; clear hSw; go_simp; try with_reducible rfl))
          try simp only [Act.put, List.setIfInBounds_toArray, List.set_cons_zero, List.set_cons_succ]
          refine wpAnyK_take (i := 18) (oi := ?_) (v := ?_) ?_ (by kernel_rfl) (by kernel_rfl) (by kernel_rfl) (fun _ _ _ h => h) (by decide) ?_ HS16.out (fun _ => trivial) ?_
          rotate_left 2
          · (simp only [List.getElem?_toArray, List.getElem?_cons_succ, List.getElem?_cons_zero]; rfl)
          · (first | exact Or.inr ⟨by rfl, rfl⟩ | (refine Or.inl ⟨by rfl, ?_⟩; intro W hSw; clear hSw; go_simp; try with_reducible rfl))
          try simp only [Act.put, List.setIfInBounds_toArray, List.set_cons_zero, List.set_cons_succ]
          refine wpAnyK_take (i := 19) (oi := ?_) (v := ?_) ?_ (by kernel_rfl) (by kernel_rfl) (by kernel_rfl) (fun _ _ _ h => h) (by decide) ?_ HS16.out (fun _ => trivial) ?_
          rotate_left 2
          · (simp only [List.getElem?_toArray, List.getElem?_cons_succ, List.getElem?_cons_zero]; rfl)
          · (first | exact Or.inr ⟨by rfl, rfl⟩ | (refine Or.inl ⟨by rfl, ?_⟩; intro W hSw; clear hSw; go_simp; try with_reducible rfl))
          try simp only [Act.put, List.setIfInBounds_toArray, List.set_cons_zero, List.set_cons_succ]
          refine wpAnyK_take (i := 20) (oi := ?_) (v := ?_) ?_ (by kernel_rfl) (by kernel_rfl) (by kernel_rfl) (fun _ _ _ h => h) (by decide) ?_ HS16.out (fun _ => trivial) ?_
          rotate_left 2
          · (simp only [List.getElem?_toArray, List.getElem?_cons_succ, List.getElem?_cons_zero]; rfl)
          · (first | exact Or.inr ⟨by rfl, rfl⟩ | (refine Or.inl ⟨by rfl, ?_⟩; intro W hSw; have hq := HSB.out W hSw; clear hSw; go_simp; try with_reducible rfl))
          try simp only [Act.put, List.setIfInBounds_toArray, List.set_cons_zero, List.set_cons_succ]
          refine wpAnyK_one (i := 21) (o := ?_) (by kernel_rfl) ?_ (fun K hK => ?_)
          rotate_left 1
          · (simp only [List.getElem?_toArray, List.getElem?_cons_succ, List.getElem?_cons_zero]; rfl)
          go_simp
          refine hK.out _ _ HS17.out (fun _ => trivial) ?_
          clear hK K
          try simp only [Act.put, List.setIfInBounds_toArray, List.set_cons_zero, List.set_cons_succ]
          refine wpAnyK_one (i := 22) (o := ?_) (by kernel_rfl) ?_ (fun K hK => ?_)
          rotate_left 1
          · (simp only [List.getElem?_toArray, List.getElem?_cons_succ, List.getElem?_cons_zero]; rfl)
          go_simp
          refine hK.out _ _ HS17.out (fun _ => trivial) ?_
          clear hK K
          try simp only [Act.put, List.setIfInBounds_toArray, List.set_cons_zero, List.set_cons_succ]
          refine wpAnyK_take (i := 23) (oi := ?_) (v := ?_) ?_ (by kernel_rfl) (by kernel_rfl) (by kernel_rfl) (fun _ _ _ h => h) (by decide) ?_ HS17.out (fun _ => trivial) ?_
          rotate_left 2
          · (simp only [List.getElem?_toArray, List.getElem?_cons_succ, List.getElem?_cons_zero]; rfl)
          · (first | exact Or.inr ⟨by rfl, rfl⟩ | (refine Or.inl ⟨by rfl, ?_⟩; intro W hSw; clear hSw; go_simp; try with_reducible rfl))
          try simp only [Act.put, List.setIfInBounds_toArray, List.set_cons_zero, List.set_cons_succ]
          refine wpAnyK_take (i := 24) (oi := ?_) (v := ?_) ?_ (by kernel_rfl) (by kernel_rfl) (by kernel_rfl) (fun _ _ _ h => h) (by decide) ?_ HS17.out (fun _ => trivial) ?_
          rotate_left 2
          · (simp only [List.getElem?_toArray, List.getElem?_cons_succ, List.getElem?_cons_zero]; rfl)
          · (first | exact Or.inr ⟨by rfl, rfl⟩ | (refine Or.inl ⟨by rfl, ?_⟩; intro W hSw; clear hSw; go_simp; try with_reducible rfl))
          try simp only [Act.put, List.setIfInBounds_toArray, List.set_cons_zero, List.set_cons_succ]
          refine wpAnyK_done (by kernel_rfl) ?_ _
          refine NoPanic.normal ?_
          clear m1 s1 m2 s2 p1 p2 hadd
          have H17 := Lib.hid (H15.out.below HS17.out)
          have HO17 := Lib.hid (HO15.out.blw HS17.out)
          have HZ17 := Lib.hid ((HS17.out.block G (lt_of_row' HZ15.out)).trans HZ15.out)
          clear H15 HO15 HZ15 HP15 HQ15 HSA HSB HS16 HS17 HS
          --M11
          rcases HKS.out.out with rfl | ⟨rfl, rfl, hfk⟩
          · go_wp2_with fail
            refine (awake16_any w17).mono ?_
            rintro e w18 ⟨rfl, hb18⟩
            have H18 := Lib.hid ((HB0.out.trans (H17.out.ends.mono (Nat.le_of_lt HL0.out))).trans (hb18.mono (Nat.le_trans (Nat.le_of_lt HL0.out) H17.out.ends.size)))
            go_wp2
            go_ret
            exact ⟨rfl, H18.out⟩
          · have HFK := Lib.hid hfk
            clear hfk HKS
            go_wp2_with fail
            go_loopw [19] (fun v19 wr => ∃ j : Nat, j ≤ 16 ∧ v19 = .int .i64 j ∧ Below w17.heap.size w17 wr) (fun v19 _ => 16 - (intOf v19).toNat)
            case atStart => exact ⟨0, by omega, rfl, Below.refl _ _⟩
            case round =>
              obtain ⟨j, hj, rfl, hbw⟩ := hrel
              have HBW := Lib.hid hbw
              have HX7 := Lib.hid (H17.out.below hbw)
              have HXO := Lib.hid (HO17.out.blw hbw)
              have HXZ := Lib.hid ((hbw.block G (lt_of_row' HZ17.out)).trans HZ17.out)
              clear hbw H17 HO17 HZ17
              by_cases hlt : j < 16
              · go_upto_region 34 with (fail)
                --M12
                have HRG := Lib.hid (fun W (hW : Below wr.heap.size wr W) => show Calls Try.prog 18 #[.pointer (some ⟨C, 0, none⟩), .int .i64 j] W fun e w' => e = .returned (.int .u64 (s'.r j)) ∧ W = w' from by
                  refine (box_reg (HX7.out.below hW) j hlt _ rfl).mono ?_
                  rintro e w' ⟨rfl, rfl⟩
                  exact ⟨rfl, rfl⟩)
                have HCL := Lib.hid (fun W (hW : Below wr.heap.size wr W) => show W.cell? ⟨D, j, none⟩ = some (.int .u64 (s'.r j)) from (HXO.out.blw hW).cell hlt)
                have HS := Lib.hid (show Below wr.heap.size wr wr.drew from (Below.refl _ _).drew)
                refine wp_region_noPanic ?_
                refine wp_region_K (fun W => Below wr.heap.size wr W) (fun _ => True) 99 (by kernel_rfl) ?_
                refine wpAnyK_take (i := 0) (oi := ?_) (v := ?_) ?_ (by kernel_rfl) (by kernel_rfl) (by kernel_rfl) (fun _ _ _ h => h) (by decide) ?_ HS.out (fun _ => trivial) ?_
                rotate_left 2
                · (simp only [List.getElem?_toArray, List.getElem?_cons_succ, List.getElem?_cons_zero]; rfl)
                · (first | exact Or.inr ⟨by rfl, rfl⟩ | (refine Or.inl ⟨by rfl, ?_⟩; intro W hSw; clear hSw; go_simp; try with_reducible rfl))
                try simp only [Act.put, List.setIfInBounds_toArray, List.set_cons_zero, List.set_cons_succ]
                refine wpAnyK_take (i := 1) (oi := ?_) (v := ?_) ?_ (by kernel_rfl) (by kernel_rfl) (by kernel_rfl) (fun _ _ _ h => h) (by decide) ?_ HS.out (fun _ => trivial) ?_
                rotate_left 2
                · (simp only [List.getElem?_toArray, List.getElem?_cons_succ, List.getElem?_cons_zero]; rfl)
                · (first | exact Or.inr ⟨by rfl, rfl⟩ | (refine Or.inl ⟨by rfl, ?_⟩; intro W hSw; clear hSw; go_simp; try with_reducible rfl))
                try simp only [Act.put, List.setIfInBounds_toArray, List.set_cons_zero, List.set_cons_succ]
                refine wpAnyK_takeQ (i := 2) (oi := ?_) (v := .int .u64 (s'.r j)) ?_ (by kernel_rfl) (by kernel_rfl) (by kernel_rfl) (fun _ _ _ h => h) (by decide) ?_ HS.out (fun _ => trivial) ?_
                rotate_left 1
                · (simp only [List.getElem?_toArray, List.getElem?_cons_succ, List.getElem?_cons_zero]; rfl)
                · refine ⟨by rfl, fun W hW => ⟨18, #[.pointer (some ⟨C, 0, none⟩), .int .i64 j], ?_, HRG.out W hW⟩⟩
                  first | kernel_rfl | (go_simp; done) | rfl
                try simp only [Act.put, List.setIfInBounds_toArray, List.set_cons_zero, List.set_cons_succ]
                refine wpAnyK_take (i := 3) (oi := ?_) (v := ?_) ?_ (by kernel_rfl) (by kernel_rfl) (by kernel_rfl) (fun _ _ _ h => h) (by decide) ?_ HS.out (fun _ => trivial) ?_
                rotate_left 2
                · (simp only [List.getElem?_toArray, List.getElem?_cons_succ, List.getElem?_cons_zero]; rfl)
                · (first | exact Or.inr ⟨by rfl, rfl⟩ | (refine Or.inl ⟨by rfl, ?_⟩; intro W hSw; clear hSw; go_simp; try with_reducible rfl))
                try simp only [Act.put, List.setIfInBounds_toArray, List.set_cons_zero, List.set_cons_succ]
                refine wpAnyK_take (i := 4) (oi := ?_) (v := ?_) ?_ (by kernel_rfl) (by kernel_rfl) (by kernel_rfl) (fun _ _ _ h => h) (by decide) ?_ HS.out (fun _ => trivial) ?_
                rotate_left 2
                · (simp only [List.getElem?_toArray, List.getElem?_cons_succ, List.getElem?_cons_zero]; rfl)
                · (first | exact Or.inr ⟨by rfl, rfl⟩ | (refine Or.inl ⟨by rfl, ?_⟩; intro W hSw; clear hSw; go_simp; try with_reducible rfl))
                try simp only [Act.put, List.setIfInBounds_toArray, List.set_cons_zero, List.set_cons_succ]
                refine wpAnyK_take (i := 5) (oi := ?_) (v := ?_) ?_ (by kernel_rfl) (by kernel_rfl) (by kernel_rfl) (fun _ _ _ h => h) (by decide) ?_ HS.out (fun _ => trivial) ?_
                rotate_left 2
                · (simp only [List.getElem?_toArray, List.getElem?_cons_succ, List.getElem?_cons_zero]; rfl)
                · (first | exact Or.inr ⟨by rfl, rfl⟩ | (refine Or.inl ⟨by rfl, ?_⟩; intro W hSw; have hq := HCL.out W hSw; clear hSw; go_simp; try with_reducible rfl))
                try simp only [Act.put, List.setIfInBounds_toArray, List.set_cons_zero, List.set_cons_succ]
                refine wpAnyK_take (i := 6) (oi := ?_) (v := ?_) ?_ (by kernel_rfl) (by kernel_rfl) (by kernel_rfl) (fun _ _ _ h => h) (by decide) ?_ HS.out (fun _ => trivial) ?_
                rotate_left 2
                · (simp only [List.getElem?_toArray, List.getElem?_cons_succ, List.getElem?_cons_zero]; rfl)
                · (first | exact Or.inr ⟨by rfl, rfl⟩ | (refine Or.inl ⟨by rfl, ?_⟩; intro W hSw; clear hSw; go_simp; try with_reducible rfl))
                try simp only [Act.put, List.setIfInBounds_toArray, List.set_cons_zero, List.set_cons_succ]
                refine wpAnyK_done (by kernel_rfl) ?_ _
                refine NoPanic.normal ?_
                go_wp2_with fail
                --M13
                go_roundw
                case rel => exact ⟨j + 1, by omega, by go_num, HBW.out.trans (HS.out.mono HBW.out.size)⟩
                case measure => simp [intOf]; omega
              · obtain rfl : j = 16 := by omega
                go_wp2_with fail
                --M14
                refine (getFault_any wr C M _ _ _ HX7.out.cpu).mono ?_
                rintro e w18 ⟨rfl, hb18⟩
                have H18 := Lib.hid (HX7.out.below hb18)
                have HZ18 := Lib.hid ((hb18.block G (lt_of_row' HXZ.out)).trans HXZ.out)
                clear hb18 HX7 HXZ
                go_upto_region 37 with (fail)
                --M15
                obtain ⟨w19, hw19⟩ : ∃ w19, w18.alloc (.cells #[.int .i64 fk, .int .u64 fa] 57) = w19 := ⟨_, rfl⟩
                have hb19 : Below w18.heap.size w18 w19 := by rw [← hw19]; exact (Below.refl _ _).alloc (Nat.le_refl _) _
                have hz19 : w19.heap[w18.heap.size]? = some (.cells #[.int .i64 fk, .int .u64 fa] 57 (0, 0)) := by rw [← hw19]; exact heap_alloc_new w18 _
                have H19 := Lib.hid (H18.out.below hb19)
                have HZ19 := Lib.hid ((hb19.block G (lt_of_row' HZ18.out)).trans HZ18.out)
                have HF19 := Lib.hid hz19
                rw [hw19]
                generalize w18.heap.size = q18 at *
                clear hb19 hz19 hw19 H18 HZ18
                have HIPc := Lib.hid (fun W (hW : Below w19.heap.size w19 W) => show Calls Try.prog 20 #[.pointer (some ⟨C, 0, none⟩)] W fun e w' => e = .returned (.int .u64 8192) ∧ W = w' from by
                  refine (box_ip (H19.out.below hW) 8192 HIP.out).mono ?_
                  rintro e w' ⟨rfl, rfl⟩
                  exact ⟨rfl, rfl⟩)
                have HFLc := Lib.hid (fun W (hW : Below w19.heap.size w19 W) => getFlags_any W C M s' fk fa (H19.out.below hW).cpu)
                have HZF := Lib.hid (fun W (hW : Below w19.heap.size w19 W) => (hW.block G (lt_of_row' HZ19.out)).trans HZ19.out)
                have HCF := Lib.hid (fun W (hW : Below w19.heap.size w19 W) => show W.cell? ⟨q18, 0, none⟩ = some (.int .i64 fk) from by rw [cell_of_row' ((hW.block q18 (lt_of_row' HF19.out)).trans HF19.out)]; rfl)
                rcases HFK.out with rfl | rfl | rfl
                · skip
                  have HS := Lib.hid (show Below w19.heap.size w19 w19.drew from (Below.refl _ _).drew)
                  refine wp_region_noPanic ?_
                  refine wp_region_K (fun W => Below w19.heap.size w19 W) (fun _ => True) 99 (by kernel_rfl) ?_
                  refine wpAnyK_take (i := 0) (oi := ?_) (v := ?_) ?_ (by kernel_rfl) (by kernel_rfl) (by kernel_rfl) (fun _ _ _ h => h) (by decide) ?_ HS.out (fun _ => trivial) ?_
                  rotate_left 2
                  · (simp only [List.getElem?_toArray, List.getElem?_cons_succ, List.getElem?_cons_zero]; rfl)
                  · (first | exact Or.inr ⟨by rfl, rfl⟩ | (refine Or.inl ⟨by rfl, ?_⟩; intro W hSw; clear hSw; go_simp; try with_reducible rfl))
                  try simp only [Act.put, List.setIfInBounds_toArray, List.set_cons_zero, List.set_cons_succ]
                  refine wpAnyK_take (i := 1) (oi := ?_) (v := ?_) ?_ (by kernel_rfl) (by kernel_rfl) (by kernel_rfl) (fun _ _ _ h => h) (by decide) ?_ HS.out (fun _ => trivial) ?_
                  rotate_left 2
                  · (simp only [List.getElem?_toArray, List.getElem?_cons_succ, List.getElem?_cons_zero]; rfl)
                  · (first | exact Or.inr ⟨by rfl, rfl⟩ | (refine Or.inl ⟨by rfl, ?_⟩; intro W hSw; clear hSw; go_simp; try with_reducible rfl))
                  try simp only [Act.put, List.setIfInBounds_toArray, List.set_cons_zero, List.set_cons_succ]
                  refine wpAnyK_take (i := 2) (oi := ?_) (v := ?_) ?_ (by kernel_rfl) (by kernel_rfl) (by kernel_rfl) (fun _ _ _ h => h) (by decide) ?_ HS.out (fun _ => trivial) ?_
                  rotate_left 2
                  · (simp only [List.getElem?_toArray, List.getElem?_cons_succ, List.getElem?_cons_zero]; rfl)
                  · (first | exact Or.inr ⟨by rfl, rfl⟩ | (refine Or.inl ⟨by rfl, ?_⟩; intro W hSw; clear hSw; go_simp; try with_reducible rfl))
                  try simp only [Act.put, List.setIfInBounds_toArray, List.set_cons_zero, List.set_cons_succ]
                  refine wpAnyK_take (i := 3) (oi := ?_) (v := ?_) ?_ (by kernel_rfl) (by kernel_rfl) (by kernel_rfl) (fun _ _ _ h => h) (by decide) ?_ HS.out (fun _ => trivial) ?_
                  rotate_left 2
                  · (simp only [List.getElem?_toArray, List.getElem?_cons_succ, List.getElem?_cons_zero]; rfl)
                  · (first | exact Or.inr ⟨by rfl, rfl⟩ | (refine Or.inl ⟨by rfl, ?_⟩; intro W hSw; clear hSw; go_simp; try with_reducible rfl))
                  try simp only [Act.put, List.setIfInBounds_toArray, List.set_cons_zero, List.set_cons_succ]
                  refine wpAnyK_takeQ (i := 4) (oi := ?_) (v := .int .u64 8192) ?_ (by kernel_rfl) (by kernel_rfl) (by kernel_rfl) (fun _ _ _ h => h) (by decide) ?_ HS.out (fun _ => trivial) ?_
                  rotate_left 1
                  · (simp only [List.getElem?_toArray, List.getElem?_cons_succ, List.getElem?_cons_zero]; rfl)
                  · refine ⟨by rfl, fun W hW => ⟨20, #[.pointer (some ⟨C, 0, none⟩)], ?_, HIPc.out W hW⟩⟩
                    first | kernel_rfl | (go_simp; done) | rfl
                  try simp only [Act.put, List.setIfInBounds_toArray, List.set_cons_zero, List.set_cons_succ]
                  refine wpAnyK_take (i := 5) (oi := ?_) (v := ?_) ?_ (by kernel_rfl) (by kernel_rfl) (by kernel_rfl) (fun _ _ _ h => h) (by decide) ?_ HS.out (fun _ => trivial) ?_
                  rotate_left 2
                  · (simp only [List.getElem?_toArray, List.getElem?_cons_succ, List.getElem?_cons_zero]; rfl)
                  · (first | exact Or.inr ⟨by rfl, rfl⟩ | (refine Or.inl ⟨by rfl, ?_⟩; intro W hSw; clear hSw; go_simp; try with_reducible rfl))
                  try simp only [Act.put, List.setIfInBounds_toArray, List.set_cons_zero, List.set_cons_succ]
                  refine wpAnyK_take (i := 6) (oi := ?_) (v := ?_) ?_ (by kernel_rfl) (by kernel_rfl) (by kernel_rfl) (fun _ _ _ h => h) (by decide) ?_ HS.out (fun _ => trivial) ?_
                  rotate_left 2
                  · (simp only [List.getElem?_toArray, List.getElem?_cons_succ, List.getElem?_cons_zero]; rfl)
                  · (first | exact Or.inr ⟨by rfl, rfl⟩ | (refine Or.inl ⟨by rfl, ?_⟩; intro W hSw; clear hSw; go_simp; try with_reducible rfl))
                  try simp only [Act.put, List.setIfInBounds_toArray, List.set_cons_zero, List.set_cons_succ]
                  refine wpAnyK_take (i := 7) (oi := ?_) (v := ?_) ?_ (by kernel_rfl) (by kernel_rfl) (by kernel_rfl) (fun _ _ _ h => h) (by decide) ?_ HS.out (fun _ => trivial) ?_
                  rotate_left 2
                  · (simp only [List.getElem?_toArray, List.getElem?_cons_succ, List.getElem?_cons_zero]; rfl)
                  · (first | exact Or.inr ⟨by rfl, rfl⟩ | (refine Or.inl ⟨by rfl, ?_⟩; intro W hSw; clear hSw; go_simp; try with_reducible rfl))
                  try simp only [Act.put, List.setIfInBounds_toArray, List.set_cons_zero, List.set_cons_succ]
                  refine wpAnyK_take (i := 8) (oi := ?_) (v := ?_) ?_ (by kernel_rfl) (by kernel_rfl) (by kernel_rfl) (fun _ _ _ h => h) (by decide) ?_ HS.out (fun _ => trivial) ?_
                  rotate_left 2
                  · (simp only [List.getElem?_toArray, List.getElem?_cons_succ, List.getElem?_cons_zero]; rfl)
                  · (first | exact Or.inr ⟨by rfl, rfl⟩ | (refine Or.inl ⟨by rfl, ?_⟩; intro W hSw; clear hSw; go_simp; try with_reducible rfl))
                  try simp only [Act.put, List.setIfInBounds_toArray, List.set_cons_zero, List.set_cons_succ]
                  refine wpAnyK_take (i := 10) (oi := ?_) (v := ?_) ?_ (by kernel_rfl) (by kernel_rfl) (by kernel_rfl) (fun _ _ _ h => h) (by decide) ?_ HS.out (fun _ => trivial) ?_
                  rotate_left 2
                  · (simp only [List.getElem?_toArray, List.getElem?_cons_succ, List.getElem?_cons_zero]; rfl)
                  · refine yieldsIf_load_row_g 43 (.tmp 12) G 43 #[.bool s'.z, .bool s'.s, .bool s'.c, .bool s'.o] (0, 0) ?_ ?_ ?_ ?_ ?_ ?_
                    · rfl
                    · rfl
                    · first | rfl | simp [Act.eval]
                    · exact fun W hW => HZF.out W hW
                    · rfl
                    · rfl
                  try simp only [Act.put, List.setIfInBounds_toArray, List.set_cons_zero, List.set_cons_succ]
                  --N1
                  refine wpAnyK_one (i := 9) (o := ?_) (by kernel_rfl) ?_ (fun K hK => ?_)
                  rotate_left 1
                  · (simp only [List.getElem?_toArray, List.getElem?_cons_succ, List.getElem?_cons_zero]; rfl)
                  go_simp
                  go_at_call 21
                  refine (HFLc.out _ HS.out).mono ?_
                  rintro e w20 ⟨rfl, hb20⟩
                  have HS2 := Lib.hid (HS.out.trans (hb20.mono HS.out.size))
                  clear hb20
                  refine hK.out _ _ HS2.out (fun _ => trivial) ?_
                  clear hK K
                  try simp only [Act.put, List.setIfInBounds_toArray, List.set_cons_zero, List.set_cons_succ]
                  --N2
                  refine wpAnyK_take (i := 11) (oi := ?_) (v := ?_) ?_ (by kernel_rfl) (by kernel_rfl) (by kernel_rfl) (fun _ _ _ h => h) (by decide) ?_ HS2.out (fun _ => trivial) ?_
                  rotate_left 2
                  · (simp only [List.getElem?_toArray, List.getElem?_cons_succ, List.getElem?_cons_zero]; rfl)
                  · (first | exact Or.inr ⟨by rfl, rfl⟩ | (refine Or.inl ⟨by rfl, ?_⟩; intro W hSw; clear hSw; go_simp; try with_reducible rfl))
                  try simp only [Act.put, List.setIfInBounds_toArray, List.set_cons_zero, List.set_cons_succ]
                  refine wpAnyK_take (i := 12) (oi := ?_) (v := ?_) ?_ (by kernel_rfl) (by kernel_rfl) (by kernel_rfl) (fun _ _ _ h => h) (by decide) ?_ HS2.out (fun _ => trivial) ?_
                  rotate_left 2
                  · (simp only [List.getElem?_toArray, List.getElem?_cons_succ, List.getElem?_cons_zero]; rfl)
                  · (first | exact Or.inr ⟨by rfl, rfl⟩ | (refine Or.inl ⟨by rfl, ?_⟩; intro W hSw; clear hSw; go_simp; try with_reducible rfl))
                  try simp only [Act.put, List.setIfInBounds_toArray, List.set_cons_zero, List.set_cons_succ]
                  refine wpAnyK_take (i := 13) (oi := ?_) (v := ?_) ?_ (by kernel_rfl) (by kernel_rfl) (by kernel_rfl) (fun _ _ _ h => h) (by decide) ?_ HS2.out (fun _ => trivial) ?_
                  rotate_left 2
                  · (simp only [List.getElem?_toArray, List.getElem?_cons_succ, List.getElem?_cons_zero]; rfl)
                  · (first | exact Or.inr ⟨by rfl, rfl⟩ | (refine Or.inl ⟨by rfl, ?_⟩; intro W hSw; clear hSw; go_simp; try with_reducible rfl))
                  try simp only [Act.put, List.setIfInBounds_toArray, List.set_cons_zero, List.set_cons_succ]
                  refine wpAnyK_take (i := 14) (oi := ?_) (v := ?_) ?_ (by kernel_rfl) (by kernel_rfl) (by kernel_rfl) (fun _ _ _ h => h) (by decide) ?_ HS2.out (fun _ => trivial) ?_
                  rotate_left 2
                  · (simp only [List.getElem?_toArray, List.getElem?_cons_succ, List.getElem?_cons_zero]; rfl)
                  · (first | exact Or.inr ⟨by rfl, rfl⟩ | (refine Or.inl ⟨by rfl, ?_⟩; intro W hSw; clear hSw; go_simp; try with_reducible rfl))
                  try simp only [Act.put, List.setIfInBounds_toArray, List.set_cons_zero, List.set_cons_succ]
                  refine wpAnyK_take (i := 15) (oi := ?_) (v := ?_) ?_ (by kernel_rfl) (by kernel_rfl) (by kernel_rfl) (fun _ _ _ h => h) (by decide) ?_ HS2.out (fun _ => trivial) ?_
                  rotate_left 2
                  · (simp only [List.getElem?_toArray, List.getElem?_cons_succ, List.getElem?_cons_zero]; rfl)
                  · (first | exact Or.inr ⟨by rfl, rfl⟩ | (refine Or.inl ⟨by rfl, ?_⟩; intro W hSw; have hq := HCF.out W hSw; clear hSw; go_simp; try with_reducible rfl))
                  try simp only [Act.put, List.setIfInBounds_toArray, List.set_cons_zero, List.set_cons_succ]
                  refine wpAnyK_take (i := 16) (oi := ?_) (v := ?_) ?_ (by kernel_rfl) (by kernel_rfl) (by kernel_rfl) (fun _ _ _ h => h) (by decide) ?_ HS2.out (fun _ => trivial) ?_
                  rotate_left 2
                  · (simp only [List.getElem?_toArray, List.getElem?_cons_succ, List.getElem?_cons_zero]; rfl)
                  · (first | exact Or.inr ⟨by rfl, rfl⟩ | (refine Or.inl ⟨by rfl, ?_⟩; intro W hSw; clear hSw; go_simp; try with_reducible rfl))
                  try simp only [Act.put, List.setIfInBounds_toArray, List.set_cons_zero, List.set_cons_succ]
                  refine wpAnyK_take (i := 17) (oi := ?_) (v := ?_) ?_ (by kernel_rfl) (by kernel_rfl) (by kernel_rfl) (fun _ _ _ h => h) (by decide) ?_ HS2.out (fun _ => trivial) ?_
                  rotate_left 2
                  · (simp only [List.getElem?_toArray, List.getElem?_cons_succ, List.getElem?_cons_zero]; rfl)
                  · (first | exact Or.inr ⟨by rfl, rfl⟩ | (refine Or.inl ⟨by rfl, ?_⟩; intro W hSw; clear hSw; go_simp; try with_reducible rfl))
                  try simp only [Act.put, List.setIfInBounds_toArray, List.set_cons_zero, List.set_cons_succ]
                  refine wpAnyK_take (i := 18) (oi := ?_) (v := undef) ?_ (by kernel_rfl) (by kernel_rfl) (by kernel_rfl) (fun _ _ _ h => h) (by decide) ?_ HS2.out (fun _ => trivial) ?_
                  rotate_left 1
                  · (simp only [List.getElem?_toArray, List.getElem?_cons_succ, List.getElem?_cons_zero]; rfl)
                  · exact Or.inr ⟨by rfl, rfl⟩
                  try simp only [Act.put, List.setIfInBounds_toArray, List.set_cons_zero, List.set_cons_succ]
                  refine wpAnyK_take (i := 19) (oi := ?_) (v := undef) ?_ (by kernel_rfl) (by kernel_rfl) (by kernel_rfl) (fun _ _ _ h => h) (by decide) ?_ HS2.out (fun _ => trivial) ?_
                  rotate_left 1
                  · (simp only [List.getElem?_toArray, List.getElem?_cons_succ, List.getElem?_cons_zero]; rfl)
                  · exact Or.inr ⟨by rfl, rfl⟩
                  try simp only [Act.put, List.setIfInBounds_toArray, List.set_cons_zero, List.set_cons_succ]
                  refine wpAnyK_take (i := 20) (oi := ?_) (v := undef) ?_ (by kernel_rfl) (by kernel_rfl) (by kernel_rfl) (fun _ _ _ h => h) (by decide) ?_ HS2.out (fun _ => trivial) ?_
                  rotate_left 1
                  · (simp only [List.getElem?_toArray, List.getElem?_cons_succ, List.getElem?_cons_zero]; rfl)
                  · exact Or.inr ⟨by rfl, rfl⟩
                  try simp only [Act.put, List.setIfInBounds_toArray, List.set_cons_zero, List.set_cons_succ]
                  refine wpAnyK_take (i := 21) (oi := ?_) (v := ?_) ?_ (by kernel_rfl) (by kernel_rfl) (by kernel_rfl) (fun _ _ _ h => h) (by decide) ?_ HS2.out (fun _ => trivial) ?_
                  rotate_left 2
                  · (simp only [List.getElem?_toArray, List.getElem?_cons_succ, List.getElem?_cons_zero]; rfl)
                  · (first | exact Or.inr ⟨by rfl, rfl⟩ | (refine Or.inl ⟨by rfl, ?_⟩; intro W hSw; clear hSw; go_simp; try with_reducible rfl))
                  try simp only [Act.put, List.setIfInBounds_toArray, List.set_cons_zero, List.set_cons_succ]
                  refine wpAnyK_take (i := 22) (oi := ?_) (v := ?_) ?_ (by kernel_rfl) (by kernel_rfl) (by kernel_rfl) (fun _ _ _ h => h) (by decide) ?_ HS2.out (fun _ => trivial) ?_
                  rotate_left 2
                  · (simp only [List.getElem?_toArray, List.getElem?_cons_succ, List.getElem?_cons_zero]; rfl)
                  · (first | exact Or.inr ⟨by rfl, rfl⟩ | (refine Or.inl ⟨by rfl, ?_⟩; intro W hSw; clear hSw; go_simp; try with_reducible rfl))
                  try simp only [Act.put, List.setIfInBounds_toArray, List.set_cons_zero, List.set_cons_succ]
                  refine wpAnyK_take (i := 23) (oi := ?_) (v := undef) ?_ (by kernel_rfl) (by kernel_rfl) (by kernel_rfl) (fun _ _ _ h => h) (by decide) ?_ HS2.out (fun _ => trivial) ?_
                  rotate_left 1
                  · (simp only [List.getElem?_toArray, List.getElem?_cons_succ, List.getElem?_cons_zero]; rfl)
                  · exact Or.inr ⟨by rfl, rfl⟩
                  try simp only [Act.put, List.setIfInBounds_toArray, List.set_cons_zero, List.set_cons_succ]
                  refine wpAnyK_take (i := 24) (oi := ?_) (v := undef) ?_ (by kernel_rfl) (by kernel_rfl) (by kernel_rfl) (fun _ _ _ h => h) (by decide) ?_ HS2.out (fun _ => trivial) ?_
                  rotate_left 1
                  · (simp only [List.getElem?_toArray, List.getElem?_cons_succ, List.getElem?_cons_zero]; rfl)
                  · exact Or.inr ⟨by rfl, rfl⟩
                  try simp only [Act.put, List.setIfInBounds_toArray, List.set_cons_zero, List.set_cons_succ]
                  refine wpAnyK_take (i := 25) (oi := ?_) (v := undef) ?_ (by kernel_rfl) (by kernel_rfl) (by kernel_rfl) (fun _ _ _ h => h) (by decide) ?_ HS2.out (fun _ => trivial) ?_
                  rotate_left 1
                  · (simp only [List.getElem?_toArray, List.getElem?_cons_succ, List.getElem?_cons_zero]; rfl)
                  · exact Or.inr ⟨by rfl, rfl⟩
                  try simp only [Act.put, List.setIfInBounds_toArray, List.set_cons_zero, List.set_cons_succ]
                  refine wpAnyK_take (i := 26) (oi := ?_) (v := ?_) ?_ (by kernel_rfl) (by kernel_rfl) (by kernel_rfl) (fun _ _ _ h => h) (by decide) ?_ HS2.out (fun _ => trivial) ?_
                  rotate_left 2
                  · (simp only [List.getElem?_toArray, List.getElem?_cons_succ, List.getElem?_cons_zero]; rfl)
                  · (first | exact Or.inr ⟨by rfl, rfl⟩ | (refine Or.inl ⟨by rfl, ?_⟩; intro W hSw; clear hSw; go_simp; try with_reducible rfl))
                  try simp only [Act.put, List.setIfInBounds_toArray, List.set_cons_zero, List.set_cons_succ]
                  refine wpAnyK_take (i := 27) (oi := ?_) (v := ?_) ?_ (by kernel_rfl) (by kernel_rfl) (by kernel_rfl) (fun _ _ _ h => h) (by decide) ?_ HS2.out (fun _ => trivial) ?_
                  rotate_left 2
                  · (simp only [List.getElem?_toArray, List.getElem?_cons_succ, List.getElem?_cons_zero]; rfl)
                  · (first | exact Or.inr ⟨by rfl, rfl⟩ | (refine Or.inl ⟨by rfl, ?_⟩; intro W hSw; clear hSw; go_simp; try with_reducible rfl))
                  try simp only [Act.put, List.setIfInBounds_toArray, List.set_cons_zero, List.set_cons_succ]
                  refine wpAnyK_take (i := 28) (oi := ?_) (v := ?_) ?_ (by kernel_rfl) (by kernel_rfl) (by kernel_rfl) (fun _ _ _ h => h) (by decide) ?_ HS2.out (fun _ => trivial) ?_
                  rotate_left 2
                  · (simp only [List.getElem?_toArray, List.getElem?_cons_succ, List.getElem?_cons_zero]; rfl)
                  · (first | exact Or.inr ⟨by rfl, rfl⟩ | (refine Or.inl ⟨by rfl, ?_⟩; intro W hSw; clear hSw; go_simp; try with_reducible rfl))
                  try simp only [Act.put, List.setIfInBounds_toArray, List.set_cons_zero, List.set_cons_succ]
                  refine wpAnyK_one (i := 29) (o := ?_) (by kernel_rfl) ?_ (fun K hK => ?_)
                  rotate_left 1
                  · (simp only [List.getElem?_toArray, List.getElem?_cons_succ, List.getElem?_cons_zero]; rfl)
                  go_simp
                  go_at_call 13
                  refine (awake16_any _).mono ?_
                  rintro e w21 ⟨rfl, hb21⟩
                  have HS3 := Lib.hid (HS2.out.trans (hb21.mono HS2.out.size))
                  clear hb21
                  refine hK.out _ _ HS3.out (fun _ => trivial) ?_
                  clear hK K
                  try simp only [Act.put, List.setIfInBounds_toArray, List.set_cons_zero, List.set_cons_succ]
                  refine wpAnyK_take (i := 30) (oi := ?_) (v := ?_) ?_ (by kernel_rfl) (by kernel_rfl) (by kernel_rfl) (fun _ _ _ h => h) (by decide) ?_ HS3.out (fun _ => trivial) ?_
                  rotate_left 2
                  · (simp only [List.getElem?_toArray, List.getElem?_cons_succ, List.getElem?_cons_zero]; rfl)
                  · (first | exact Or.inr ⟨by rfl, rfl⟩ | (refine Or.inl ⟨by rfl, ?_⟩; intro W hSw; clear hSw; go_simp; try with_reducible rfl))
                  try simp only [Act.put, List.setIfInBounds_toArray, List.set_cons_zero, List.set_cons_succ]
                  refine wpAnyK_take (i := 31) (oi := ?_) (v := ?_) ?_ (by kernel_rfl) (by kernel_rfl) (by kernel_rfl) (fun _ _ _ h => h) (by decide) ?_ HS3.out (fun _ => trivial) ?_
                  rotate_left 2
                  · (simp only [List.getElem?_toArray, List.getElem?_cons_succ, List.getElem?_cons_zero]; rfl)
                  · (first | exact Or.inr ⟨by rfl, rfl⟩ | (refine Or.inl ⟨by rfl, ?_⟩; intro W hSw; clear hSw; go_simp; try with_reducible rfl))
                  try simp only [Act.put, List.setIfInBounds_toArray, List.set_cons_zero, List.set_cons_succ]
                  refine wpAnyK_done (by kernel_rfl) ?_ _
                  refine NoPanic.normal ?_
                  have HE := Lib.hid ((HB0.out.trans (H19.out.ends.mono (Nat.le_of_lt HL0.out))).trans (HS3.out.mono (Nat.le_trans (Nat.le_of_lt HL0.out) H19.out.ends.size)))
                  go_wp2
                  go_ret
                  exact ⟨rfl, HE.out⟩
                · skip
                  have HS := Lib.hid (show Below w19.heap.size w19 w19.drew from (Below.refl _ _).drew)
                  refine wp_region_noPanic ?_
                  refine wp_region_K (fun W => Below w19.heap.size w19 W) (fun _ => True) 99 (by kernel_rfl) ?_
                  refine wpAnyK_take (i := 0) (oi := ?_) (v := ?_) ?_ (by kernel_rfl) (by kernel_rfl) (by kernel_rfl) (fun _ _ _ h => h) (by decide) ?_ HS.out (fun _ => trivial) ?_
                  rotate_left 2
                  · (simp only [List.getElem?_toArray, List.getElem?_cons_succ, List.getElem?_cons_zero]; rfl)
                  · (first | exact Or.inr ⟨by rfl, rfl⟩ | (refine Or.inl ⟨by rfl, ?_⟩; intro W hSw; clear hSw; go_simp; try with_reducible rfl))
                  try simp only [Act.put, List.setIfInBounds_toArray, List.set_cons_zero, List.set_cons_succ]
                  refine wpAnyK_take (i := 1) (oi := ?_) (v := ?_) ?_ (by kernel_rfl) (by kernel_rfl) (by kernel_rfl) (fun _ _ _ h => h) (by decide) ?_ HS.out (fun _ => trivial) ?_
                  rotate_left 2
                  · (simp only [List.getElem?_toArray, List.getElem?_cons_succ, List.getElem?_cons_zero]; rfl)
                  · (first | exact Or.inr ⟨by rfl, rfl⟩ | (refine Or.inl ⟨by rfl, ?_⟩; intro W hSw; clear hSw; go_simp; try with_reducible rfl))
                  try simp only [Act.put, List.setIfInBounds_toArray, List.set_cons_zero, List.set_cons_succ]
                  refine wpAnyK_take (i := 2) (oi := ?_) (v := ?_) ?_ (by kernel_rfl) (by kernel_rfl) (by kernel_rfl) (fun _ _ _ h => h) (by decide) ?_ HS.out (fun _ => trivial) ?_
                  rotate_left 2
                  · (simp only [List.getElem?_toArray, List.getElem?_cons_succ, List.getElem?_cons_zero]; rfl)
                  · (first | exact Or.inr ⟨by rfl, rfl⟩ | (refine Or.inl ⟨by rfl, ?_⟩; intro W hSw; clear hSw; go_simp; try with_reducible rfl))
                  try simp only [Act.put, List.setIfInBounds_toArray, List.set_cons_zero, List.set_cons_succ]
                  refine wpAnyK_take (i := 3) (oi := ?_) (v := ?_) ?_ (by kernel_rfl) (by kernel_rfl) (by kernel_rfl) (fun _ _ _ h => h) (by decide) ?_ HS.out (fun _ => trivial) ?_
                  rotate_left 2
                  · (simp only [List.getElem?_toArray, List.getElem?_cons_succ, List.getElem?_cons_zero]; rfl)
                  · (first | exact Or.inr ⟨by rfl, rfl⟩ | (refine Or.inl ⟨by rfl, ?_⟩; intro W hSw; clear hSw; go_simp; try with_reducible rfl))
                  try simp only [Act.put, List.setIfInBounds_toArray, List.set_cons_zero, List.set_cons_succ]
                  refine wpAnyK_takeQ (i := 4) (oi := ?_) (v := .int .u64 8192) ?_ (by kernel_rfl) (by kernel_rfl) (by kernel_rfl) (fun _ _ _ h => h) (by decide) ?_ HS.out (fun _ => trivial) ?_
                  rotate_left 1
                  · (simp only [List.getElem?_toArray, List.getElem?_cons_succ, List.getElem?_cons_zero]; rfl)
                  · refine ⟨by rfl, fun W hW => ⟨20, #[.pointer (some ⟨C, 0, none⟩)], ?_, HIPc.out W hW⟩⟩
                    first | kernel_rfl | (go_simp; done) | rfl
                  try simp only [Act.put, List.setIfInBounds_toArray, List.set_cons_zero, List.set_cons_succ]
                  refine wpAnyK_take (i := 5) (oi := ?_) (v := ?_) ?_ (by kernel_rfl) (by kernel_rfl) (by kernel_rfl) (fun _ _ _ h => h) (by decide) ?_ HS.out (fun _ => trivial) ?_
                  rotate_left 2
                  · (simp only [List.getElem?_toArray, List.getElem?_cons_succ, List.getElem?_cons_zero]; rfl)
                  · (first | exact Or.inr ⟨by rfl, rfl⟩ | (refine Or.inl ⟨by rfl, ?_⟩; intro W hSw; clear hSw; go_simp; try with_reducible rfl))
                  try simp only [Act.put, List.setIfInBounds_toArray, List.set_cons_zero, List.set_cons_succ]
                  refine wpAnyK_take (i := 6) (oi := ?_) (v := ?_) ?_ (by kernel_rfl) (by kernel_rfl) (by kernel_rfl) (fun _ _ _ h => h) (by decide) ?_ HS.out (fun _ => trivial) ?_
                  rotate_left 2
                  · (simp only [List.getElem?_toArray, List.getElem?_cons_succ, List.getElem?_cons_zero]; rfl)
                  · (first | exact Or.inr ⟨by rfl, rfl⟩ | (refine Or.inl ⟨by rfl, ?_⟩; intro W hSw; clear hSw; go_simp; try with_reducible rfl))
                  try simp only [Act.put, List.setIfInBounds_toArray, List.set_cons_zero, List.set_cons_succ]
                  refine wpAnyK_take (i := 7) (oi := ?_) (v := ?_) ?_ (by kernel_rfl) (by kernel_rfl) (by kernel_rfl) (fun _ _ _ h => h) (by decide) ?_ HS.out (fun _ => trivial) ?_
                  rotate_left 2
                  · (simp only [List.getElem?_toArray, List.getElem?_cons_succ, List.getElem?_cons_zero]; rfl)
                  · (first | exact Or.inr ⟨by rfl, rfl⟩ | (refine Or.inl ⟨by rfl, ?_⟩; intro W hSw; clear hSw; go_simp; try with_reducible rfl))
                  try simp only [Act.put, List.setIfInBounds_toArray, List.set_cons_zero, List.set_cons_succ]
                  refine wpAnyK_take (i := 8) (oi := ?_) (v := ?_) ?_ (by kernel_rfl) (by kernel_rfl) (by kernel_rfl) (fun _ _ _ h => h) (by decide) ?_ HS.out (fun _ => trivial) ?_
                  rotate_left 2
                  · (simp only [List.getElem?_toArray, List.getElem?_cons_succ, List.getElem?_cons_zero]; rfl)
                  · (first | exact Or.inr ⟨by rfl, rfl⟩ | (refine Or.inl ⟨by rfl, ?_⟩; intro W hSw; clear hSw; go_simp; try with_reducible rfl))
                  try simp only [Act.put, List.setIfInBounds_toArray, List.set_cons_zero, List.set_cons_succ]
                  refine wpAnyK_take (i := 10) (oi := ?_) (v := ?_) ?_ (by kernel_rfl) (by kernel_rfl) (by kernel_rfl) (fun _ _ _ h => h) (by decide) ?_ HS.out (fun _ => trivial) ?_
                  rotate_left 2
                  · (simp only [List.getElem?_toArray, List.getElem?_cons_succ, List.getElem?_cons_zero]; rfl)
                  · refine yieldsIf_load_row_g 43 (.tmp 12) G 43 #[.bool s'.z, .bool s'.s, .bool s'.c, .bool s'.o] (0, 0) ?_ ?_ ?_ ?_ ?_ ?_
                    · rfl
                    · rfl
                    · first | rfl | simp [Act.eval]
                    · exact fun W hW => HZF.out W hW
                    · rfl
                    · rfl
                  try simp only [Act.put, List.setIfInBounds_toArray, List.set_cons_zero, List.set_cons_succ]
                  --N1
                  refine wpAnyK_one (i := 9) (o := ?_) (by kernel_rfl) ?_ (fun K hK => ?_)
                  rotate_left 1
                  · (simp only [List.getElem?_toArray, List.getElem?_cons_succ, List.getElem?_cons_zero]; rfl)
                  go_simp
                  go_at_call 21
                  refine (HFLc.out _ HS.out).mono ?_
                  rintro e w20 ⟨rfl, hb20⟩
                  have HS2 := Lib.hid (HS.out.trans (hb20.mono HS.out.size))
                  clear hb20
                  refine hK.out _ _ HS2.out (fun _ => trivial) ?_
                  clear hK K
                  try simp only [Act.put, List.setIfInBounds_toArray, List.set_cons_zero, List.set_cons_succ]
                  --N2
                  refine wpAnyK_take (i := 11) (oi := ?_) (v := ?_) ?_ (by kernel_rfl) (by kernel_rfl) (by kernel_rfl) (fun _ _ _ h => h) (by decide) ?_ HS2.out (fun _ => trivial) ?_
                  rotate_left 2
                  · (simp only [List.getElem?_toArray, List.getElem?_cons_succ, List.getElem?_cons_zero]; rfl)
                  · (first | exact Or.inr ⟨by rfl, rfl⟩ | (refine Or.inl ⟨by rfl, ?_⟩; intro W hSw; clear hSw; go_simp; try with_reducible rfl))
                  try simp only [Act.put, List.setIfInBounds_toArray, List.set_cons_zero, List.set_cons_succ]
                  refine wpAnyK_take (i := 12) (oi := ?_) (v := ?_) ?_ (by kernel_rfl) (by kernel_rfl) (by kernel_rfl) (fun _ _ _ h => h) (by decide) ?_ HS2.out (fun _ => trivial) ?_
                  rotate_left 2
                  · (simp only [List.getElem?_toArray, List.getElem?_cons_succ, List.getElem?_cons_zero]; rfl)
                  · (first | exact Or.inr ⟨by rfl, rfl⟩ | (refine Or.inl ⟨by rfl, ?_⟩; intro W hSw; clear hSw; go_simp; try with_reducible rfl))
                  try simp only [Act.put, List.setIfInBounds_toArray, List.set_cons_zero, List.set_cons_succ]
                  refine wpAnyK_take (i := 13) (oi := ?_) (v := ?_) ?_ (by kernel_rfl) (by kernel_rfl) (by kernel_rfl) (fun _ _ _ h => h) (by decide) ?_ HS2.out (fun _ => trivial) ?_
                  rotate_left 2
                  · (simp only [List.getElem?_toArray, List.getElem?_cons_succ, List.getElem?_cons_zero]; rfl)
                  · (first | exact Or.inr ⟨by rfl, rfl⟩ | (refine Or.inl ⟨by rfl, ?_⟩; intro W hSw; clear hSw; go_simp; try with_reducible rfl))
                  try simp only [Act.put, List.setIfInBounds_toArray, List.set_cons_zero, List.set_cons_succ]
                  refine wpAnyK_take (i := 14) (oi := ?_) (v := ?_) ?_ (by kernel_rfl) (by kernel_rfl) (by kernel_rfl) (fun _ _ _ h => h) (by decide) ?_ HS2.out (fun _ => trivial) ?_
                  rotate_left 2
                  · (simp only [List.getElem?_toArray, List.getElem?_cons_succ, List.getElem?_cons_zero]; rfl)
                  · (first | exact Or.inr ⟨by rfl, rfl⟩ | (refine Or.inl ⟨by rfl, ?_⟩; intro W hSw; clear hSw; go_simp; try with_reducible rfl))
                  try simp only [Act.put, List.setIfInBounds_toArray, List.set_cons_zero, List.set_cons_succ]
                  refine wpAnyK_take (i := 15) (oi := ?_) (v := ?_) ?_ (by kernel_rfl) (by kernel_rfl) (by kernel_rfl) (fun _ _ _ h => h) (by decide) ?_ HS2.out (fun _ => trivial) ?_
                  rotate_left 2
                  · (simp only [List.getElem?_toArray, List.getElem?_cons_succ, List.getElem?_cons_zero]; rfl)
                  · (first | exact Or.inr ⟨by rfl, rfl⟩ | (refine Or.inl ⟨by rfl, ?_⟩; intro W hSw; have hq := HCF.out W hSw; clear hSw; go_simp; try with_reducible rfl))
                  try simp only [Act.put, List.setIfInBounds_toArray, List.set_cons_zero, List.set_cons_succ]
                  refine wpAnyK_take (i := 16) (oi := ?_) (v := ?_) ?_ (by kernel_rfl) (by kernel_rfl) (by kernel_rfl) (fun _ _ _ h => h) (by decide) ?_ HS2.out (fun _ => trivial) ?_
                  rotate_left 2
                  · (simp only [List.getElem?_toArray, List.getElem?_cons_succ, List.getElem?_cons_zero]; rfl)
                  · (first | exact Or.inr ⟨by rfl, rfl⟩ | (refine Or.inl ⟨by rfl, ?_⟩; intro W hSw; clear hSw; go_simp; try with_reducible rfl))
                  try simp only [Act.put, List.setIfInBounds_toArray, List.set_cons_zero, List.set_cons_succ]
                  refine wpAnyK_take (i := 17) (oi := ?_) (v := ?_) ?_ (by kernel_rfl) (by kernel_rfl) (by kernel_rfl) (fun _ _ _ h => h) (by decide) ?_ HS2.out (fun _ => trivial) ?_
                  rotate_left 2
                  · (simp only [List.getElem?_toArray, List.getElem?_cons_succ, List.getElem?_cons_zero]; rfl)
                  · (first | exact Or.inr ⟨by rfl, rfl⟩ | (refine Or.inl ⟨by rfl, ?_⟩; intro W hSw; clear hSw; go_simp; try with_reducible rfl))
                  try simp only [Act.put, List.setIfInBounds_toArray, List.set_cons_zero, List.set_cons_succ]
                  refine wpAnyK_take (i := 18) (oi := ?_) (v := ?_) ?_ (by kernel_rfl) (by kernel_rfl) (by kernel_rfl) (fun _ _ _ h => h) (by decide) ?_ HS2.out (fun _ => trivial) ?_
                  rotate_left 2
                  · (simp only [List.getElem?_toArray, List.getElem?_cons_succ, List.getElem?_cons_zero]; rfl)
                  · (first | exact Or.inr ⟨by rfl, rfl⟩ | (refine Or.inl ⟨by rfl, ?_⟩; intro W hSw; clear hSw; go_simp; try with_reducible rfl))
                  try simp only [Act.put, List.setIfInBounds_toArray, List.set_cons_zero, List.set_cons_succ]
                  refine wpAnyK_take (i := 19) (oi := ?_) (v := ?_) ?_ (by kernel_rfl) (by kernel_rfl) (by kernel_rfl) (fun _ _ _ h => h) (by decide) ?_ HS2.out (fun _ => trivial) ?_
                  rotate_left 2
                  · (simp only [List.getElem?_toArray, List.getElem?_cons_succ, List.getElem?_cons_zero]; rfl)
                  · (first | exact Or.inr ⟨by rfl, rfl⟩ | (refine Or.inl ⟨by rfl, ?_⟩; intro W hSw; have hq := HCF.out W hSw; clear hSw; go_simp; try with_reducible rfl))
                  try simp only [Act.put, List.setIfInBounds_toArray, List.set_cons_zero, List.set_cons_succ]
                  refine wpAnyK_take (i := 20) (oi := ?_) (v := ?_) ?_ (by kernel_rfl) (by kernel_rfl) (by kernel_rfl) (fun _ _ _ h => h) (by decide) ?_ HS2.out (fun _ => trivial) ?_
                  rotate_left 2
                  · (simp only [List.getElem?_toArray, List.getElem?_cons_succ, List.getElem?_cons_zero]; rfl)
                  · (first | exact Or.inr ⟨by rfl, rfl⟩ | (refine Or.inl ⟨by rfl, ?_⟩; intro W hSw; clear hSw; go_simp; try with_reducible rfl))
                  try simp only [Act.put, List.setIfInBounds_toArray, List.set_cons_zero, List.set_cons_succ]
                  refine wpAnyK_take (i := 21) (oi := ?_) (v := ?_) ?_ (by kernel_rfl) (by kernel_rfl) (by kernel_rfl) (fun _ _ _ h => h) (by decide) ?_ HS2.out (fun _ => trivial) ?_
                  rotate_left 2
                  · (simp only [List.getElem?_toArray, List.getElem?_cons_succ, List.getElem?_cons_zero]; rfl)
                  · (first | exact Or.inr ⟨by rfl, rfl⟩ | (refine Or.inl ⟨by rfl, ?_⟩; intro W hSw; clear hSw; go_simp; try with_reducible rfl))
                  try simp only [Act.put, List.setIfInBounds_toArray, List.set_cons_zero, List.set_cons_succ]
                  refine wpAnyK_take (i := 22) (oi := ?_) (v := ?_) ?_ (by kernel_rfl) (by kernel_rfl) (by kernel_rfl) (fun _ _ _ h => h) (by decide) ?_ HS2.out (fun _ => trivial) ?_
                  rotate_left 2
                  · (simp only [List.getElem?_toArray, List.getElem?_cons_succ, List.getElem?_cons_zero]; rfl)
                  · (first | exact Or.inr ⟨by rfl, rfl⟩ | (refine Or.inl ⟨by rfl, ?_⟩; intro W hSw; clear hSw; go_simp; try with_reducible rfl))
                  try simp only [Act.put, List.setIfInBounds_toArray, List.set_cons_zero, List.set_cons_succ]
                  refine wpAnyK_take (i := 23) (oi := ?_) (v := ?_) ?_ (by kernel_rfl) (by kernel_rfl) (by kernel_rfl) (fun _ _ _ h => h) (by decide) ?_ HS2.out (fun _ => trivial) ?_
                  rotate_left 2
                  · (simp only [List.getElem?_toArray, List.getElem?_cons_succ, List.getElem?_cons_zero]; rfl)
                  · (first | exact Or.inr ⟨by rfl, rfl⟩ | (refine Or.inl ⟨by rfl, ?_⟩; intro W hSw; clear hSw; go_simp; try with_reducible rfl))
                  try simp only [Act.put, List.setIfInBounds_toArray, List.set_cons_zero, List.set_cons_succ]
                  refine wpAnyK_take (i := 24) (oi := ?_) (v := ?_) ?_ (by kernel_rfl) (by kernel_rfl) (by kernel_rfl) (fun _ _ _ h => h) (by decide) ?_ HS2.out (fun _ => trivial) ?_
                  rotate_left 2
                  · (simp only [List.getElem?_toArray, List.getElem?_cons_succ, List.getElem?_cons_zero]; rfl)
                  · (first | exact Or.inr ⟨by rfl, rfl⟩ | (refine Or.inl ⟨by rfl, ?_⟩; intro W hSw; have hq := HCF.out W hSw; clear hSw; go_simp; try with_reducible rfl))
                  try simp only [Act.put, List.setIfInBounds_toArray, List.set_cons_zero, List.set_cons_succ]
                  refine wpAnyK_take (i := 25) (oi := ?_) (v := ?_) ?_ (by kernel_rfl) (by kernel_rfl) (by kernel_rfl) (fun _ _ _ h => h) (by decide) ?_ HS2.out (fun _ => trivial) ?_
                  rotate_left 2
                  · (simp only [List.getElem?_toArray, List.getElem?_cons_succ, List.getElem?_cons_zero]; rfl)
                  · (first | exact Or.inr ⟨by rfl, rfl⟩ | (refine Or.inl ⟨by rfl, ?_⟩; intro W hSw; clear hSw; go_simp; try with_reducible rfl))
                  try simp only [Act.put, List.setIfInBounds_toArray, List.set_cons_zero, List.set_cons_succ]
                  refine wpAnyK_take (i := 26) (oi := ?_) (v := ?_) ?_ (by kernel_rfl) (by kernel_rfl) (by kernel_rfl) (fun _ _ _ h => h) (by decide) ?_ HS2.out (fun _ => trivial) ?_
                  rotate_left 2
                  · (simp only [List.getElem?_toArray, List.getElem?_cons_succ, List.getElem?_cons_zero]; rfl)
                  · (first | exact Or.inr ⟨by rfl, rfl⟩ | (refine Or.inl ⟨by rfl, ?_⟩; intro W hSw; clear hSw; go_simp; try with_reducible rfl))
                  try simp only [Act.put, List.setIfInBounds_toArray, List.set_cons_zero, List.set_cons_succ]
                  refine wpAnyK_take (i := 27) (oi := ?_) (v := ?_) ?_ (by kernel_rfl) (by kernel_rfl) (by kernel_rfl) (fun _ _ _ h => h) (by decide) ?_ HS2.out (fun _ => trivial) ?_
                  rotate_left 2
                  · (simp only [List.getElem?_toArray, List.getElem?_cons_succ, List.getElem?_cons_zero]; rfl)
                  · (first | exact Or.inr ⟨by rfl, rfl⟩ | (refine Or.inl ⟨by rfl, ?_⟩; intro W hSw; clear hSw; go_simp; try with_reducible rfl))
                  try simp only [Act.put, List.setIfInBounds_toArray, List.set_cons_zero, List.set_cons_succ]
                  refine wpAnyK_take (i := 28) (oi := ?_) (v := ?_) ?_ (by kernel_rfl) (by kernel_rfl) (by kernel_rfl) (fun _ _ _ h => h) (by decide) ?_ HS2.out (fun _ => trivial) ?_
                  rotate_left 2
                  · (simp only [List.getElem?_toArray, List.getElem?_cons_succ, List.getElem?_cons_zero]; rfl)
                  · (first | exact Or.inr ⟨by rfl, rfl⟩ | (refine Or.inl ⟨by rfl, ?_⟩; intro W hSw; clear hSw; go_simp; try with_reducible rfl))
                  try simp only [Act.put, List.setIfInBounds_toArray, List.set_cons_zero, List.set_cons_succ]
                  refine wpAnyK_one (i := 29) (o := ?_) (by kernel_rfl) ?_ (fun K hK => ?_)
                  rotate_left 1
                  · (simp only [List.getElem?_toArray, List.getElem?_cons_succ, List.getElem?_cons_zero]; rfl)
                  go_simp
                  go_at_call 13
                  refine (awake16_any _).mono ?_
                  rintro e w21 ⟨rfl, hb21⟩
                  have HS3 := Lib.hid (HS2.out.trans (hb21.mono HS2.out.size))
                  clear hb21
                  refine hK.out _ _ HS3.out (fun _ => trivial) ?_
                  clear hK K
                  try simp only [Act.put, List.setIfInBounds_toArray, List.set_cons_zero, List.set_cons_succ]
                  refine wpAnyK_take (i := 30) (oi := ?_) (v := ?_) ?_ (by kernel_rfl) (by kernel_rfl) (by kernel_rfl) (fun _ _ _ h => h) (by decide) ?_ HS3.out (fun _ => trivial) ?_
                  rotate_left 2
                  · (simp only [List.getElem?_toArray, List.getElem?_cons_succ, List.getElem?_cons_zero]; rfl)
                  · (first | exact Or.inr ⟨by rfl, rfl⟩ | (refine Or.inl ⟨by rfl, ?_⟩; intro W hSw; clear hSw; go_simp; try with_reducible rfl))
                  try simp only [Act.put, List.setIfInBounds_toArray, List.set_cons_zero, List.set_cons_succ]
                  refine wpAnyK_take (i := 31) (oi := ?_) (v := ?_) ?_ (by kernel_rfl) (by kernel_rfl) (by kernel_rfl) (fun _ _ _ h => h) (by decide) ?_ HS3.out (fun _ => trivial) ?_
                  rotate_left 2
                  · (simp only [List.getElem?_toArray, List.getElem?_cons_succ, List.getElem?_cons_zero]; rfl)
                  · (first | exact Or.inr ⟨by rfl, rfl⟩ | (refine Or.inl ⟨by rfl, ?_⟩; intro W hSw; clear hSw; go_simp; try with_reducible rfl))
                  try simp only [Act.put, List.setIfInBounds_toArray, List.set_cons_zero, List.set_cons_succ]
                  refine wpAnyK_done (by kernel_rfl) ?_ _
                  refine NoPanic.normal ?_
                  have HE := Lib.hid ((HB0.out.trans (H19.out.ends.mono (Nat.le_of_lt HL0.out))).trans (HS3.out.mono (Nat.le_trans (Nat.le_of_lt HL0.out) H19.out.ends.size)))
                  go_wp2
                  go_ret
                  exact ⟨rfl, HE.out⟩
                · skip
                  have HS := Lib.hid (show Below w19.heap.size w19 w19.drew from (Below.refl _ _).drew)
                  refine wp_region_noPanic ?_
                  refine wp_region_K (fun W => Below w19.heap.size w19 W) (fun _ => True) 99 (by kernel_rfl) ?_
                  refine wpAnyK_take (i := 0) (oi := ?_) (v := ?_) ?_ (by kernel_rfl) (by kernel_rfl) (by kernel_rfl) (fun _ _ _ h => h) (by decide) ?_ HS.out (fun _ => trivial) ?_
                  rotate_left 2
                  · (simp only [List.getElem?_toArray, List.getElem?_cons_succ, List.getElem?_cons_zero]; rfl)
                  · (first | exact Or.inr ⟨by rfl, rfl⟩ | (refine Or.inl ⟨by rfl, ?_⟩; intro W hSw; clear hSw; go_simp; try with_reducible rfl))
                  try simp only [Act.put, List.setIfInBounds_toArray, List.set_cons_zero, List.set_cons_succ]
                  refine wpAnyK_take (i := 1) (oi := ?_) (v := ?_) ?_ (by kernel_rfl) (by kernel_rfl) (by kernel_rfl) (fun _ _ _ h => h) (by decide) ?_ HS.out (fun _ => trivial) ?_
                  rotate_left 2
                  · (simp only [List.getElem?_toArray, List.getElem?_cons_succ, List.getElem?_cons_zero]; rfl)
                  · (first | exact Or.inr ⟨by rfl, rfl⟩ | (refine Or.inl ⟨by rfl, ?_⟩; intro W hSw; clear hSw; go_simp; try with_reducible rfl))
                  try simp only [Act.put, List.setIfInBounds_toArray, List.set_cons_zero, List.set_cons_succ]
                  refine wpAnyK_take (i := 2) (oi := ?_) (v := ?_) ?_ (by kernel_rfl) (by kernel_rfl) (by kernel_rfl) (fun _ _ _ h => h) (by decide) ?_ HS.out (fun _ => trivial) ?_
                  rotate_left 2
                  · (simp only [List.getElem?_toArray, List.getElem?_cons_succ, List.getElem?_cons_zero]; rfl)
                  · (first | exact Or.inr ⟨by rfl, rfl⟩ | (refine Or.inl ⟨by rfl, ?_⟩; intro W hSw; clear hSw; go_simp; try with_reducible rfl))
                  try simp only [Act.put, List.setIfInBounds_toArray, List.set_cons_zero, List.set_cons_succ]
                  refine wpAnyK_take (i := 3) (oi := ?_) (v := ?_) ?_ (by kernel_rfl) (by kernel_rfl) (by kernel_rfl) (fun _ _ _ h => h) (by decide) ?_ HS.out (fun _ => trivial) ?_
                  rotate_left 2
                  · (simp only [List.getElem?_toArray, List.getElem?_cons_succ, List.getElem?_cons_zero]; rfl)
                  · (first | exact Or.inr ⟨by rfl, rfl⟩ | (refine Or.inl ⟨by rfl, ?_⟩; intro W hSw; clear hSw; go_simp; try with_reducible rfl))
                  try simp only [Act.put, List.setIfInBounds_toArray, List.set_cons_zero, List.set_cons_succ]
                  refine wpAnyK_takeQ (i := 4) (oi := ?_) (v := .int .u64 8192) ?_ (by kernel_rfl) (by kernel_rfl) (by kernel_rfl) (fun _ _ _ h => h) (by decide) ?_ HS.out (fun _ => trivial) ?_
                  rotate_left 1
                  · (simp only [List.getElem?_toArray, List.getElem?_cons_succ, List.getElem?_cons_zero]; rfl)
                  · refine ⟨by rfl, fun W hW => ⟨20, #[.pointer (some ⟨C, 0, none⟩)], ?_, HIPc.out W hW⟩⟩
                    first | kernel_rfl | (go_simp; done) | rfl
                  try simp only [Act.put, List.setIfInBounds_toArray, List.set_cons_zero, List.set_cons_succ]
                  refine wpAnyK_take (i := 5) (oi := ?_) (v := ?_) ?_ (by kernel_rfl) (by kernel_rfl) (by kernel_rfl) (fun _ _ _ h => h) (by decide) ?_ HS.out (fun _ => trivial) ?_
                  rotate_left 2
                  · (simp only [List.getElem?_toArray, List.getElem?_cons_succ, List.getElem?_cons_zero]; rfl)
                  · (first | exact Or.inr ⟨by rfl, rfl⟩ | (refine Or.inl ⟨by rfl, ?_⟩; intro W hSw; clear hSw; go_simp; try with_reducible rfl))
                  try simp only [Act.put, List.setIfInBounds_toArray, List.set_cons_zero, List.set_cons_succ]
                  refine wpAnyK_take (i := 6) (oi := ?_) (v := ?_) ?_ (by kernel_rfl) (by kernel_rfl) (by kernel_rfl) (fun _ _ _ h => h) (by decide) ?_ HS.out (fun _ => trivial) ?_
                  rotate_left 2
                  · (simp only [List.getElem?_toArray, List.getElem?_cons_succ, List.getElem?_cons_zero]; rfl)
                  · (first | exact Or.inr ⟨by rfl, rfl⟩ | (refine Or.inl ⟨by rfl, ?_⟩; intro W hSw; clear hSw; go_simp; try with_reducible rfl))
                  try simp only [Act.put, List.setIfInBounds_toArray, List.set_cons_zero, List.set_cons_succ]
                  refine wpAnyK_take (i := 7) (oi := ?_) (v := ?_) ?_ (by kernel_rfl) (by kernel_rfl) (by kernel_rfl) (fun _ _ _ h => h) (by decide) ?_ HS.out (fun _ => trivial) ?_
                  rotate_left 2
                  · (simp only [List.getElem?_toArray, List.getElem?_cons_succ, List.getElem?_cons_zero]; rfl)
                  · (first | exact Or.inr ⟨by rfl, rfl⟩ | (refine Or.inl ⟨by rfl, ?_⟩; intro W hSw; clear hSw; go_simp; try with_reducible rfl))
                  try simp only [Act.put, List.setIfInBounds_toArray, List.set_cons_zero, List.set_cons_succ]
                  refine wpAnyK_take (i := 8) (oi := ?_) (v := ?_) ?_ (by kernel_rfl) (by kernel_rfl) (by kernel_rfl) (fun _ _ _ h => h) (by decide) ?_ HS.out (fun _ => trivial) ?_
                  rotate_left 2
                  · (simp only [List.getElem?_toArray, List.getElem?_cons_succ, List.getElem?_cons_zero]; rfl)
                  · (first | exact Or.inr ⟨by rfl, rfl⟩ | (refine Or.inl ⟨by rfl, ?_⟩; intro W hSw; clear hSw; go_simp; try with_reducible rfl))
                  try simp only [Act.put, List.setIfInBounds_toArray, List.set_cons_zero, List.set_cons_succ]
                  refine wpAnyK_take (i := 10) (oi := ?_) (v := ?_) ?_ (by kernel_rfl) (by kernel_rfl) (by kernel_rfl) (fun _ _ _ h => h) (by decide) ?_ HS.out (fun _ => trivial) ?_
                  rotate_left 2
                  · (simp only [List.getElem?_toArray, List.getElem?_cons_succ, List.getElem?_cons_zero]; rfl)
                  · refine yieldsIf_load_row_g 43 (.tmp 12) G 43 #[.bool s'.z, .bool s'.s, .bool s'.c, .bool s'.o] (0, 0) ?_ ?_ ?_ ?_ ?_ ?_
                    · rfl
                    · rfl
                    · first | rfl | simp [Act.eval]
                    · exact fun W hW => HZF.out W hW
                    · rfl
                    · rfl
                  try simp only [Act.put, List.setIfInBounds_toArray, List.set_cons_zero, List.set_cons_succ]
                  --N1
                  refine wpAnyK_one (i := 9) (o := ?_) (by kernel_rfl) ?_ (fun K hK => ?_)
                  rotate_left 1
                  · (simp only [List.getElem?_toArray, List.getElem?_cons_succ, List.getElem?_cons_zero]; rfl)
                  go_simp
                  go_at_call 21
                  refine (HFLc.out _ HS.out).mono ?_
                  rintro e w20 ⟨rfl, hb20⟩
                  have HS2 := Lib.hid (HS.out.trans (hb20.mono HS.out.size))
                  clear hb20
                  refine hK.out _ _ HS2.out (fun _ => trivial) ?_
                  clear hK K
                  try simp only [Act.put, List.setIfInBounds_toArray, List.set_cons_zero, List.set_cons_succ]
                  --N2
                  refine wpAnyK_take (i := 11) (oi := ?_) (v := ?_) ?_ (by kernel_rfl) (by kernel_rfl) (by kernel_rfl) (fun _ _ _ h => h) (by decide) ?_ HS2.out (fun _ => trivial) ?_
                  rotate_left 2
                  · (simp only [List.getElem?_toArray, List.getElem?_cons_succ, List.getElem?_cons_zero]; rfl)
                  · (first | exact Or.inr ⟨by rfl, rfl⟩ | (refine Or.inl ⟨by rfl, ?_⟩; intro W hSw; clear hSw; go_simp; try with_reducible rfl))
                  try simp only [Act.put, List.setIfInBounds_toArray, List.set_cons_zero, List.set_cons_succ]
                  refine wpAnyK_take (i := 12) (oi := ?_) (v := ?_) ?_ (by kernel_rfl) (by kernel_rfl) (by kernel_rfl) (fun _ _ _ h => h) (by decide) ?_ HS2.out (fun _ => trivial) ?_
                  rotate_left 2
                  · (simp only [List.getElem?_toArray, List.getElem?_cons_succ, List.getElem?_cons_zero]; rfl)
                  · (first | exact Or.inr ⟨by rfl, rfl⟩ | (refine Or.inl ⟨by rfl, ?_⟩; intro W hSw; clear hSw; go_simp; try with_reducible rfl))
                  try simp only [Act.put, List.setIfInBounds_toArray, List.set_cons_zero, List.set_cons_succ]
                  refine wpAnyK_take (i := 13) (oi := ?_) (v := ?_) ?_ (by kernel_rfl) (by kernel_rfl) (by kernel_rfl) (fun _ _ _ h => h) (by decide) ?_ HS2.out (fun _ => trivial) ?_
                  rotate_left 2
                  · (simp only [List.getElem?_toArray, List.getElem?_cons_succ, List.getElem?_cons_zero]; rfl)
                  · (first | exact Or.inr ⟨by rfl, rfl⟩ | (refine Or.inl ⟨by rfl, ?_⟩; intro W hSw; clear hSw; go_simp; try with_reducible rfl))
                  try simp only [Act.put, List.setIfInBounds_toArray, List.set_cons_zero, List.set_cons_succ]
                  refine wpAnyK_take (i := 14) (oi := ?_) (v := ?_) ?_ (by kernel_rfl) (by kernel_rfl) (by kernel_rfl) (fun _ _ _ h => h) (by decide) ?_ HS2.out (fun _ => trivial) ?_
                  rotate_left 2
                  · (simp only [List.getElem?_toArray, List.getElem?_cons_succ, List.getElem?_cons_zero]; rfl)
                  · (first | exact Or.inr ⟨by rfl, rfl⟩ | (refine Or.inl ⟨by rfl, ?_⟩; intro W hSw; clear hSw; go_simp; try with_reducible rfl))
                  try simp only [Act.put, List.setIfInBounds_toArray, List.set_cons_zero, List.set_cons_succ]
                  refine wpAnyK_take (i := 15) (oi := ?_) (v := ?_) ?_ (by kernel_rfl) (by kernel_rfl) (by kernel_rfl) (fun _ _ _ h => h) (by decide) ?_ HS2.out (fun _ => trivial) ?_
                  rotate_left 2
                  · (simp only [List.getElem?_toArray, List.getElem?_cons_succ, List.getElem?_cons_zero]; rfl)
                  · (first | exact Or.inr ⟨by rfl, rfl⟩ | (refine Or.inl ⟨by rfl, ?_⟩; intro W hSw; have hq := HCF.out W hSw; clear hSw; go_simp; try with_reducible rfl))
                  try simp only [Act.put, List.setIfInBounds_toArray, List.set_cons_zero, List.set_cons_succ]
                  refine wpAnyK_take (i := 16) (oi := ?_) (v := ?_) ?_ (by kernel_rfl) (by kernel_rfl) (by kernel_rfl) (fun _ _ _ h => h) (by decide) ?_ HS2.out (fun _ => trivial) ?_
                  rotate_left 2
                  · (simp only [List.getElem?_toArray, List.getElem?_cons_succ, List.getElem?_cons_zero]; rfl)
                  · (first | exact Or.inr ⟨by rfl, rfl⟩ | (refine Or.inl ⟨by rfl, ?_⟩; intro W hSw; clear hSw; go_simp; try with_reducible rfl))
                  try simp only [Act.put, List.setIfInBounds_toArray, List.set_cons_zero, List.set_cons_succ]
                  refine wpAnyK_take (i := 17) (oi := ?_) (v := ?_) ?_ (by kernel_rfl) (by kernel_rfl) (by kernel_rfl) (fun _ _ _ h => h) (by decide) ?_ HS2.out (fun _ => trivial) ?_
                  rotate_left 2
                  · (simp only [List.getElem?_toArray, List.getElem?_cons_succ, List.getElem?_cons_zero]; rfl)
                  · (first | exact Or.inr ⟨by rfl, rfl⟩ | (refine Or.inl ⟨by rfl, ?_⟩; intro W hSw; clear hSw; go_simp; try with_reducible rfl))
                  try simp only [Act.put, List.setIfInBounds_toArray, List.set_cons_zero, List.set_cons_succ]
                  refine wpAnyK_take (i := 18) (oi := ?_) (v := ?_) ?_ (by kernel_rfl) (by kernel_rfl) (by kernel_rfl) (fun _ _ _ h => h) (by decide) ?_ HS2.out (fun _ => trivial) ?_
                  rotate_left 2
                  · (simp only [List.getElem?_toArray, List.getElem?_cons_succ, List.getElem?_cons_zero]; rfl)
                  · (first | exact Or.inr ⟨by rfl, rfl⟩ | (refine Or.inl ⟨by rfl, ?_⟩; intro W hSw; clear hSw; go_simp; try with_reducible rfl))
                  try simp only [Act.put, List.setIfInBounds_toArray, List.set_cons_zero, List.set_cons_succ]
                  refine wpAnyK_take (i := 19) (oi := ?_) (v := ?_) ?_ (by kernel_rfl) (by kernel_rfl) (by kernel_rfl) (fun _ _ _ h => h) (by decide) ?_ HS2.out (fun _ => trivial) ?_
                  rotate_left 2
                  · (simp only [List.getElem?_toArray, List.getElem?_cons_succ, List.getElem?_cons_zero]; rfl)
                  · (first | exact Or.inr ⟨by rfl, rfl⟩ | (refine Or.inl ⟨by rfl, ?_⟩; intro W hSw; have hq := HCF.out W hSw; clear hSw; go_simp; try with_reducible rfl))
                  try simp only [Act.put, List.setIfInBounds_toArray, List.set_cons_zero, List.set_cons_succ]
                  refine wpAnyK_take (i := 20) (oi := ?_) (v := ?_) ?_ (by kernel_rfl) (by kernel_rfl) (by kernel_rfl) (fun _ _ _ h => h) (by decide) ?_ HS2.out (fun _ => trivial) ?_
                  rotate_left 2
                  · (simp only [List.getElem?_toArray, List.getElem?_cons_succ, List.getElem?_cons_zero]; rfl)
                  · (first | exact Or.inr ⟨by rfl, rfl⟩ | (refine Or.inl ⟨by rfl, ?_⟩; intro W hSw; clear hSw; go_simp; try with_reducible rfl))
                  try simp only [Act.put, List.setIfInBounds_toArray, List.set_cons_zero, List.set_cons_succ]
                  refine wpAnyK_take (i := 21) (oi := ?_) (v := ?_) ?_ (by kernel_rfl) (by kernel_rfl) (by kernel_rfl) (fun _ _ _ h => h) (by decide) ?_ HS2.out (fun _ => trivial) ?_
                  rotate_left 2
                  · (simp only [List.getElem?_toArray, List.getElem?_cons_succ, List.getElem?_cons_zero]; rfl)
                  · (first | exact Or.inr ⟨by rfl, rfl⟩ | (refine Or.inl ⟨by rfl, ?_⟩; intro W hSw; clear hSw; go_simp; try with_reducible rfl))
                  try simp only [Act.put, List.setIfInBounds_toArray, List.set_cons_zero, List.set_cons_succ]
                  refine wpAnyK_take (i := 22) (oi := ?_) (v := ?_) ?_ (by kernel_rfl) (by kernel_rfl) (by kernel_rfl) (fun _ _ _ h => h) (by decide) ?_ HS2.out (fun _ => trivial) ?_
                  rotate_left 2
                  · (simp only [List.getElem?_toArray, List.getElem?_cons_succ, List.getElem?_cons_zero]; rfl)
                  · (first | exact Or.inr ⟨by rfl, rfl⟩ | (refine Or.inl ⟨by rfl, ?_⟩; intro W hSw; clear hSw; go_simp; try with_reducible rfl))
                  try simp only [Act.put, List.setIfInBounds_toArray, List.set_cons_zero, List.set_cons_succ]
                  refine wpAnyK_take (i := 23) (oi := ?_) (v := undef) ?_ (by kernel_rfl) (by kernel_rfl) (by kernel_rfl) (fun _ _ _ h => h) (by decide) ?_ HS2.out (fun _ => trivial) ?_
                  rotate_left 1
                  · (simp only [List.getElem?_toArray, List.getElem?_cons_succ, List.getElem?_cons_zero]; rfl)
                  · exact Or.inr ⟨by rfl, rfl⟩
                  try simp only [Act.put, List.setIfInBounds_toArray, List.set_cons_zero, List.set_cons_succ]
                  refine wpAnyK_take (i := 24) (oi := ?_) (v := undef) ?_ (by kernel_rfl) (by kernel_rfl) (by kernel_rfl) (fun _ _ _ h => h) (by decide) ?_ HS2.out (fun _ => trivial) ?_
                  rotate_left 1
                  · (simp only [List.getElem?_toArray, List.getElem?_cons_succ, List.getElem?_cons_zero]; rfl)
                  · exact Or.inr ⟨by rfl, rfl⟩
                  try simp only [Act.put, List.setIfInBounds_toArray, List.set_cons_zero, List.set_cons_succ]
                  refine wpAnyK_take (i := 25) (oi := ?_) (v := undef) ?_ (by kernel_rfl) (by kernel_rfl) (by kernel_rfl) (fun _ _ _ h => h) (by decide) ?_ HS2.out (fun _ => trivial) ?_
                  rotate_left 1
                  · (simp only [List.getElem?_toArray, List.getElem?_cons_succ, List.getElem?_cons_zero]; rfl)
                  · exact Or.inr ⟨by rfl, rfl⟩
                  try simp only [Act.put, List.setIfInBounds_toArray, List.set_cons_zero, List.set_cons_succ]
                  refine wpAnyK_take (i := 26) (oi := ?_) (v := ?_) ?_ (by kernel_rfl) (by kernel_rfl) (by kernel_rfl) (fun _ _ _ h => h) (by decide) ?_ HS2.out (fun _ => trivial) ?_
                  rotate_left 2
                  · (simp only [List.getElem?_toArray, List.getElem?_cons_succ, List.getElem?_cons_zero]; rfl)
                  · (first | exact Or.inr ⟨by rfl, rfl⟩ | (refine Or.inl ⟨by rfl, ?_⟩; intro W hSw; clear hSw; go_simp; try with_reducible rfl))
                  try simp only [Act.put, List.setIfInBounds_toArray, List.set_cons_zero, List.set_cons_succ]
                  refine wpAnyK_take (i := 27) (oi := ?_) (v := ?_) ?_ (by kernel_rfl) (by kernel_rfl) (by kernel_rfl) (fun _ _ _ h => h) (by decide) ?_ HS2.out (fun _ => trivial) ?_
                  rotate_left 2
                  · (simp only [List.getElem?_toArray, List.getElem?_cons_succ, List.getElem?_cons_zero]; rfl)
                  · (first | exact Or.inr ⟨by rfl, rfl⟩ | (refine Or.inl ⟨by rfl, ?_⟩; intro W hSw; clear hSw; go_simp; try with_reducible rfl))
                  try simp only [Act.put, List.setIfInBounds_toArray, List.set_cons_zero, List.set_cons_succ]
                  refine wpAnyK_take (i := 28) (oi := ?_) (v := ?_) ?_ (by kernel_rfl) (by kernel_rfl) (by kernel_rfl) (fun _ _ _ h => h) (by decide) ?_ HS2.out (fun _ => trivial) ?_
                  rotate_left 2
                  · (simp only [List.getElem?_toArray, List.getElem?_cons_succ, List.getElem?_cons_zero]; rfl)
                  · (first | exact Or.inr ⟨by rfl, rfl⟩ | (refine Or.inl ⟨by rfl, ?_⟩; intro W hSw; clear hSw; go_simp; try with_reducible rfl))
                  try simp only [Act.put, List.setIfInBounds_toArray, List.set_cons_zero, List.set_cons_succ]
                  refine wpAnyK_one (i := 29) (o := ?_) (by kernel_rfl) ?_ (fun K hK => ?_)
                  rotate_left 1
                  · (simp only [List.getElem?_toArray, List.getElem?_cons_succ, List.getElem?_cons_zero]; rfl)
                  go_simp
                  go_at_call 13
                  refine (awake16_any _).mono ?_
                  rintro e w21 ⟨rfl, hb21⟩
                  have HS3 := Lib.hid (HS2.out.trans (hb21.mono HS2.out.size))
                  clear hb21
                  refine hK.out _ _ HS3.out (fun _ => trivial) ?_
                  clear hK K
                  try simp only [Act.put, List.setIfInBounds_toArray, List.set_cons_zero, List.set_cons_succ]
                  refine wpAnyK_take (i := 30) (oi := ?_) (v := ?_) ?_ (by kernel_rfl) (by kernel_rfl) (by kernel_rfl) (fun _ _ _ h => h) (by decide) ?_ HS3.out (fun _ => trivial) ?_
                  rotate_left 2
                  · (simp only [List.getElem?_toArray, List.getElem?_cons_succ, List.getElem?_cons_zero]; rfl)
                  · (first | exact Or.inr ⟨by rfl, rfl⟩ | (refine Or.inl ⟨by rfl, ?_⟩; intro W hSw; clear hSw; go_simp; try with_reducible rfl))
                  try simp only [Act.put, List.setIfInBounds_toArray, List.set_cons_zero, List.set_cons_succ]
                  refine wpAnyK_take (i := 31) (oi := ?_) (v := ?_) ?_ (by kernel_rfl) (by kernel_rfl) (by kernel_rfl) (fun _ _ _ h => h) (by decide) ?_ HS3.out (fun _ => trivial) ?_
                  rotate_left 2
                  · (simp only [List.getElem?_toArray, List.getElem?_cons_succ, List.getElem?_cons_zero]; rfl)
                  · (first | exact Or.inr ⟨by rfl, rfl⟩ | (refine Or.inl ⟨by rfl, ?_⟩; intro W hSw; clear hSw; go_simp; try with_reducible rfl))
                  try simp only [Act.put, List.setIfInBounds_toArray, List.set_cons_zero, List.set_cons_succ]
                  refine wpAnyK_done (by kernel_rfl) ?_ _
                  refine NoPanic.normal ?_
                  have HE := Lib.hid ((HB0.out.trans (H19.out.ends.mono (Nat.le_of_lt HL0.out))).trans (HS3.out.mono (Nat.le_trans (Nat.le_of_lt HL0.out) H19.out.ends.size)))
                  go_wp2
                  go_ret
                  exact ⟨rfl, HE.out⟩
end Go.Proofs.Ythbgmlmcjnlopaa
