/- law 7: among any names that rise each is found. -/
import Derived.Test.YtbjabncefhgefaaExpL
import Derived.Test.YtbjabncefhgefaaRegK
namespace Go.Proofs.Ytbjabncefhgefaa
open Go.ChangeShapes Go.WideShapes Go.ChangeAt Go.RowKit
set_option linter.unusedVariables false

theorem AtQ.isF {r : Option FnV} {e : Ending} (h : AtQ r e) : ∃ (X : Nat) (T : ByteArray), e = .returned (.tuple #[.agg #[.int .i64 X, .string T], .bool r.isSome]) := by
  unfold AtQ at h
  cases r with
  | none => exact ⟨0, _, h⟩
  | some f => exact ⟨_, _, h⟩
theorem setRow_other' (w : World) (g k : Nat) (cs : Array Value) (h : k ≠ g) : (w.setRow g cs).heap[k]? = w.heap[k]? := setRow_other w g k cs h
/-- e holds the first so many functions and names. -/
structure EAt (w0 wr : World) (N i : Nat) (A1 A2 : Option Addr) (c1 c2 : Nat) : Prop where
  bel : Below w0.heap.size w0 wr
  row : wr.heap[w0.heap.size]? = some (.cells #[.int .i64 3, .slice A1 i c1, .slice A2 i c2] 32 (0, 0))
  fs : OwnT gC 2 wr (w0.heap.size + 1) 37 (.slice A1 i c1) (fsL i)
  ns : OwnT nC 2 wr (w0.heap.size + 1) 42 (.slice A2 i c2) (nsL N i)
  ne : ∀ k, (Value.slice A1 i c1).ownBlock = some k → (Value.slice A2 i c2).ownBlock ≠ some k
theorem EAt.below {w0 wr w' : World} {N i : Nat} {A1 A2 : Option Addr} {c1 c2 : Nat} (h : EAt w0 wr N i A1 A2 c1 c2) (hb : Below wr.heap.size wr w') : EAt w0 w' N i A1 A2 c1 c2 :=
  ⟨h.bel.trans (hb.mono h.bel.size), (hb.block _ (lt_of_row' h.row)).trans h.row, h.fs.below hb, h.ns.below hb, h.ne⟩

set_option maxRecDepth 100000 in
set_option maxHeartbeats 8000000 in
theorem finds_any (n : Int) (S : ByteArray) (w : World) (hS : S.size ≤ 9223372036854775807) :
    Calls Try.prog 6 #[.int .i64 n, .string S] w fun e w' => e = .returned (.bool true) ∧ Below w.heap.size w w' := by
  have HAW := Lib.hid awake7_any
  obtain ⟨P, hP, m1⟩ : ∃ P : Nat, P < 256 ∧ bits .and .i64 n 255 = (P : Int) := ⟨(n % 256).toNat, by omega, by rw [and_ff]; omega⟩
  have hpp : Int.tmod (P : Int) 200 = ((P % 200 : Nat) : Int) := rfl
  obtain ⟨N, hN⟩ : ∃ N, P % 200 = N := ⟨_, rfl⟩
  have hN200 : N < 200 := by omega
  rw [hN] at hpp
  clear hP hN
  go_enter Try.func6, Try.ntmps6
  have HE0 := Lib.hid (show EAt w (w.alloc (.cells #[.int .i64 3, .slice none 0 0, .slice none 0 0] 32)) N 0 none none 0 0 from
    ⟨(Below.refl w.heap.size w).alloc (Nat.le_refl _) _, heap_alloc_new w _, OwnT.nil _ _ _, OwnT.nil _ _ _, fun k hk => by simp [Value.ownBlock] at hk⟩)
  go_wp2_with fail
  go_loopw [6] (fun v6 wr => ∃ (i : Nat) (A1 A2 : Option Addr) (c1 c2 : Nat), i ≤ N ∧ v6 = .int .i64 i ∧ EAt w wr N i A1 A2 c1 c2) (fun v6 _ => N - (intOf v6).toNat)
  case atStart => exact ⟨0, none, none, 0, 0, Nat.zero_le _, rfl, HE0.out⟩
  case round =>
    obtain ⟨i, A1, A2, c1, c2, hi, rfl, he⟩ := hrel
    have HE := Lib.hid he
    clear he HE0
    by_cases hlt : i < N
    · have r1 : wr.cell? ⟨w.heap.size, 1, none⟩ = some (.slice A1 i c1) := by rw [cell_of_row _ _ _ _ _ _ HE.out.row]; rfl
      have hlw : w.heap.size < wr.heap.size := lt_of_row' HE.out.row
      obtain ⟨h100, hh100⟩ : ∃ q, 100 + i = q := ⟨_, rfl⟩
      have e100 : (100 : Int) + (i : Int) = (h100 : Int) := by omega
      have HA1 := Lib.hid (show OwnT gC 2 (wr.alloc (.cells #[.int .i64 h100, .string ⟨#[]⟩] 37)) (w.heap.size + 1) 37 (.slice A1 (fsL i).length c1) (fsL i) from by rw [fsL_len]; exact HE.out.fs.alloc _)
      have HY1 := Lib.hid (show ∀ j u, (gC (h100, []))[j]? = some u → (wr.alloc (.cells #[.int .i64 h100, .string ⟨#[]⟩] 37)).cell? ⟨wr.heap.size, j, none⟩ = some u from funcCells h100 [] wr)
      have H4 := Lib.hid (show (fsL i).length + 1 ≤ maxLen from by rw [fsL_len]; unfold maxLen; omega)
      have H5 := Lib.hid (show ((fsL i).length + 1) * 24 ≤ 140737488355328 from by rw [fsL_len]; omega)
      have H3 := Lib.hid (show w.heap.size + 1 ≤ (wr.alloc (.cells #[.int .i64 h100, .string ⟨#[]⟩] 37)).heap.size from by simp; omega)
      have HRA := Lib.hid ((Below.heap_alloc wr (.cells #[.int .i64 h100, .string ⟨#[]⟩] 37) w.heap.size hlw).trans HE.out.row)
      have HSU := Lib.hid (fsL_succ i)
      have HLE := Lib.hid (fsL_len i)
      have HH := Lib.hid hh100
      clear hh100
      go_upto_region 7 with (first
        | (at_builtin; refine wpList_appT rfl (.tmp 29) (.tmp 33) 29 rfl (w.heap.size + 1) 37 _ 24 rfl infoFunc rfl (by omega) gC_len gC_one _ (fsL i) (by rw [HLE.out]; rfl) HA1.out wr.heap.size 1 rfl (h100, []) HY1.out H4.out H5.out H3.out ?_; intro g5 c5 w5 hown5 hg5 hat5; rw [HLE.out] at hown5 ⊢; have HO5 := Lib.hid hown5; have HG5 := Lib.hid hg5; have HAT5 := Lib.hid hat5; have hrow5 := (hg5.block w.heap.size (lt_of_row' HRA.out) (fun h => by have := (HA1.out.lt _ h.symm).1; omega)).trans HRA.out; have hc5 : w5.cell? ⟨w.heap.size, 1, none⟩ = some (.slice A1 i c1) := (by rw [cell_of_row _ _ _ _ _ _ hrow5]; rfl); have hf5 : w5.frozen? ⟨w.heap.size, 1, none⟩ = false := frozen_of_row _ _ _ _ _ hrow5; have HROW5 := Lib.hid hrow5; clear hown5 hg5 hat5 hrow5)
        | fail)
      obtain ⟨w6, hw6⟩ : ∃ w6, w5.setCell ⟨w.heap.size, 1, none⟩ (.slice (some ⟨g5, 0, none⟩) (i + 1) c5) = w6 := ⟨_, rfl⟩
      have hb5 : Below w.heap.size w w5 := HA1.out.grew (HE.out.bel.alloc HE.out.bel.size _) (Nat.le_succ _) (by have := HE.out.bel.size; simp; omega) HG5.out
      have HB6 := Lib.hid (show Below w.heap.size w w6 from by rw [← hw6]; exact hb5.setCell (p := ⟨w.heap.size, 1, none⟩) (Nat.le_refl _) _)
      have HR6 := Lib.hid (show w6.heap[w.heap.size]? = some (.cells #[.int .i64 3, (.slice (some ⟨g5, 0, none⟩) (i + 1) c5), .slice A2 i c2] 32 (0, 0)) from by rw [← hw6]; exact heap_setCell_same w5 w.heap.size 1 _ _ _ HROW5.out)
      have HF6 := Lib.hid (show OwnT gC 2 w6 (w.heap.size + 1) 37 (.slice (some ⟨g5, 0, none⟩) (i + 1) c5) (fsL (i + 1)) from by
        rw [← hw6, HSU.out, HH.out]
        refine OwnT.of_block HO5.out fun k hk => heap_setCell_other w5 _ _ _ ?_
        have := (HO5.out.lt k hk).1
        show k ≠ w.heap.size
        omega)
      have HN6 := Lib.hid (show OwnT nC 2 w6 (w.heap.size + 1) 42 (.slice A2 i c2) (nsL N i) from by
        rw [← hw6]
        have h5 := (HE.out.ns.alloc (.cells #[.int .i64 h100, .string ⟨#[]⟩] 37)).grown HG5.out (fun k hk hk' => HE.out.ne k (by have := HLE.out; rw [this] at hk'; exact hk') hk)
        refine h5.of_block fun k hk => heap_setCell_other w5 _ _ _ ?_
        have := (h5.lt k hk).1
        show k ≠ w.heap.size
        omega)
      have HNE6 := Lib.hid (show ∀ k, (Value.slice A2 i c2).ownBlock = some k → k ≠ g5 from fun k hk => by
        rcases HAT5.out with h | h
        · intro e; subst e
          exact HE.out.ne _ (by have := HLE.out; rw [this] at h; exact h) hk
        · have := (HE.out.ns.lt k hk).2
          simp at h
          omega)
      have HG6 := Lib.hid (show g5 < w6.heap.size from by
        have := (HF6.out.lt g5 rfl).2
        exact this)
      refine (congrArg _ hw6).mpr ?_
      clear hb5 hw6 HO5 HG5 HAT5 HROW5 hc5 hf5 HA1 HY1 H3 H4 H5 HRA HSU HLE HH r1 e100 HE
      have r2 : w6.cell? ⟨w.heap.size, 2, none⟩ = some (.slice A2 i c2) := by rw [cell_of_row _ _ _ _ _ _ HR6.out]; rfl
      have hlw6 : w.heap.size < w6.heap.size := lt_of_row' HR6.out
      obtain ⟨q, hq⟩ : ∃ q, i / 26 = q := ⟨_, rfl⟩
      obtain ⟨r, hr⟩ : ∃ r, i % 26 = r := ⟨_, rfl⟩
      have eq1 : Int.tdiv (i : Int) 26 = (q : Int) := by rw [← hq]; rfl
      have er1 : Int.tmod (i : Int) 26 = (r : Int) := by rw [← hr]; rfl
      have wq : IntKind.u8.wrap (q : Int) = (q : Int) := by rw [IntKind.wrap_u8]; omega
      have wr' : IntKind.u8.wrap (r : Int) = (r : Int) := by rw [IntKind.wrap_u8]; omega
      obtain ⟨q1, hq1⟩ : ∃ x, 97 + q = x := ⟨_, rfl⟩
      obtain ⟨q2, hq2⟩ : ∃ x, 97 + r = x := ⟨_, rfl⟩
      have eq2 : (97 : Int) + (q : Int) = (q1 : Int) := by omega
      have er2 : (97 : Int) + (r : Int) = (q2 : Int) := by omega
      have wq1 : IntKind.u8.wrap (q1 : Int) = (q1 : Int) := by rw [IntKind.wrap_u8]; omega
      have wq2 : IntKind.u8.wrap (q2 : Int) = (q2 : Int) := by rw [IntKind.wrap_u8]; omega
      obtain ⟨N1, hN1⟩ : ∃ x, N - 1 = x := ⟨_, rfl⟩
      obtain ⟨d, hd⟩ : ∃ x, N1 - i = x := ⟨_, rfl⟩
      have eN1 : (N : Int) - 1 = (N1 : Int) := by omega
      have ed : (N1 : Int) - (i : Int) = (d : Int) := by omega
      have hnm : nm i = [q1, q2] := by unfold nm; rw [hq, hr, hq1, hq2]
      obtain ⟨T, hT⟩ : ∃ T, txt (nm i) = T := ⟨_, rfl⟩
      have hst : (convert 24 9 (.slice (some ⟨w6.heap.size, 0, none⟩) 2 2)).run Try.prog (w6.alloc (.cells #[.int .u8 q1, .int .u8 q2] 5)) = .ok (.string T) (w6.alloc (.cells #[.int .u8 q1, .int .u8 q2] 5)) := by
        have h := run_str (cap := 2) (w := w6.alloc (.cells #[.int .u8 q1, .int .u8 q2] 5)) (b := w6.heap.size) (off := 0) (n := 2) (f := lF (nm i)) (fun k hk => by
          rw [Nat.zero_add, cell_of_row _ _ _ _ _ _ (heap_alloc_new w6 _), hnm]
          rcases (by omega : k = 0 ∨ k = 1) with rfl | rfl <;> rfl)
        rw [h, ← hT]
        rfl
      have HSU := Lib.hid (show nsL N (i + 1) = nsL N i ++ [(nm i, d)] from by rw [nsL_succ, hN1, hd])
      have HLE := Lib.hid (nsL_len N i)
      have hs1 : (w6.alloc (.cells #[.int .u8 q1, .int .u8 q2] 5)).heap.size = w6.heap.size + 1 := by simp
      have HA1 := Lib.hid (show OwnT nC 2 ((w6.alloc (.cells #[.int .u8 q1, .int .u8 q2] 5)).alloc (.cells #[.string T, .int .i64 d] 42)) (w.heap.size + 1) 42 (.slice A2 (nsL N i).length c2) (nsL N i) from by rw [nsL_len]; exact (HN6.out.alloc _).alloc _)
      have HY1 := Lib.hid (show ∀ j u, (nC (nm i, d))[j]? = some u → ((w6.alloc (.cells #[.int .u8 q1, .int .u8 q2] 5)).alloc (.cells #[.string T, .int .i64 d] 42)).cell? ⟨w6.heap.size + 1, j, none⟩ = some u from by
        have h := namedCells d (nm i) (w6.alloc (.cells #[.int .u8 q1, .int .u8 q2] 5))
        rw [hT, hs1] at h
        exact h)
      have H4 := Lib.hid (show (nsL N i).length + 1 ≤ maxLen from by rw [nsL_len]; unfold maxLen; omega)
      have H5 := Lib.hid (show ((nsL N i).length + 1) * 24 ≤ 140737488355328 from by rw [nsL_len]; omega)
      have H3 := Lib.hid (show w.heap.size + 1 ≤ ((w6.alloc (.cells #[.int .u8 q1, .int .u8 q2] 5)).alloc (.cells #[.string T, .int .i64 d] 42)).heap.size from by simp; omega)
      have HRA := Lib.hid ((Below.heap_alloc (w6.alloc (.cells #[.int .u8 q1, .int .u8 q2] 5)) (.cells #[.string T, .int .i64 d] 42) w.heap.size (by simp; omega)).trans ((Below.heap_alloc w6 (.cells #[.int .u8 q1, .int .u8 q2] 5) w.heap.size hlw6).trans HR6.out))
      have HFA := Lib.hid ((HF6.out.alloc (.cells #[.int .u8 q1, .int .u8 q2] 5)).alloc (.cells #[.string T, .int .i64 d] 42))
      have HBA := Lib.hid (show Below w.heap.size w ((w6.alloc (.cells #[.int .u8 q1, .int .u8 q2] 5)).alloc (.cells #[.string T, .int .i64 d] 42)) from (HB6.out.alloc HB6.out.size _).alloc (by have := HB6.out.size; simp; omega) _)
      have hqb : q ≤ 7 := by omega
      have wq64 : IntKind.i64.wrap (q : Int) = (q : Int) := by rw [IntKind.wrap_i64]; omega
      clear hq hr hq1 hq2 hN1 hd hnm hT hs1
      go_upto_region 5 with (first
        | (at_builtin; refine wpList_appT rfl (.tmp 37) (.tmp 53) 30 rfl (w.heap.size + 1) 42 _ 24 rfl infoNamed rfl (by omega) nC_len nC_one _ (nsL N i) (by rw [HLE.out]; rfl) HA1.out (w6.heap.size + 1) 1 rfl (nm i, d) HY1.out H4.out H5.out H3.out ?_; intro g7 c7 w7 hown7 hg7 hat7; rw [HLE.out] at hown7 ⊢; have HO7 := Lib.hid hown7; have HG7 := Lib.hid hg7; have HAT7 := Lib.hid hat7; have hrow7 := (hg7.block w.heap.size (lt_of_row' HRA.out) (fun h => by have := (HA1.out.lt _ h.symm).1; omega)).trans HRA.out; have hc7 : w7.cell? ⟨w.heap.size, 2, none⟩ = some (.slice A2 i c2) := (by rw [cell_of_row _ _ _ _ _ _ hrow7]; rfl); have hf7 : w7.frozen? ⟨w.heap.size, 2, none⟩ = false := frozen_of_row _ _ _ _ _ hrow7; have HROW7 := Lib.hid hrow7; clear hown7 hg7 hat7 hrow7)
        | fail)
      obtain ⟨w8, hw8⟩ : ∃ w8, w7.setCell ⟨w.heap.size, 2, none⟩ (.slice (some ⟨g7, 0, none⟩) (i + 1) c7) = w8 := ⟨_, rfl⟩
      have hb7 : Below w.heap.size w w7 := HA1.out.grew HBA.out (Nat.le_succ _) HBA.out.size HG7.out
      have he8 : EAt w w8 N (i + 1) (some ⟨g5, 0, none⟩) (some ⟨g7, 0, none⟩) c5 c7 := by
        refine ⟨?_, ?_, ?_, ?_, fun k hk hk' => ?_⟩
        · rw [← hw8]; exact hb7.setCell (p := ⟨w.heap.size, 2, none⟩) (Nat.le_refl _) _
        · rw [← hw8]; exact heap_setCell_same w7 w.heap.size 2 _ _ _ HROW7.out
        · rw [← hw8]
          have h5 := HFA.out.grown HG7.out (fun k hk hk' => by
            have e1 : g5 = k := Option.some.inj hk
            have h2 := HLE.out
            rw [h2] at hk'
            exact HNE6.out k hk' e1.symm)
          refine h5.of_block fun k hk => heap_setCell_other w7 _ _ _ ?_
          have := (h5.lt k hk).1
          show k ≠ w.heap.size
          omega
        · rw [← hw8, HSU.out]
          refine OwnT.of_block HO7.out fun k hk => heap_setCell_other w7 _ _ _ ?_
          have := (HO7.out.lt k hk).1
          show k ≠ w.heap.size
          omega
        · have e1 : g5 = k := Option.some.inj hk
          have e2 : g7 = k := Option.some.inj hk'
          rcases HAT7.out with h | h
          · have h2 := HLE.out
            rw [h2] at h
            exact HNE6.out g7 h (e2.trans e1.symm)
          · have := HG6.out
            simp at h
            omega
      have HE8 := Lib.hid he8
      refine (congrArg _ hw8).mpr ?_
      clear he8 hw8 hb7 hc7 hf7
      go_wp2_with fail
      go_roundw
      case rel => exact ⟨i + 1, _, _, _, _, by omega, by go_num, HE8.out⟩
      case measure => simp [intOf]; omega
    · obtain rfl : i = N := by omega
      have hsf := HE.out.fs
      have hsn := HE.out.ns
      have HFS := Lib.hid (fun W (hW : Below wr.heap.size wr W) => (OwnT.sl gC_len (show OwnT gC 2 wr (w.heap.size + 1) 37 (.slice A1 (fsL i).length c1) (fsL i) from by rw [fsL_len]; exact hsf)).below hW)
      have HNS := Lib.hid (fun W (hW : Below wr.heap.size wr W) => (OwnT.sl nC_len (show OwnT nC 2 wr (w.heap.size + 1) 42 (.slice A2 (nsL i i).length c2) (nsL i i) from by rw [nsL_len]; exact hsn)).below hW)
      have HBN := Lib.hid (fun S' W (hW : Below wr.heap.size wr W) => byName_any (fsL i) (nsL i i) A1 A2 c1 c2 3 S' W (HFS.out W hW) (HNS.out W hW) (fsL_ok i) (by rw [fsL_len]; omega) (by rw [nsL_len]; omega))
      have HBO := Lib.hid (fun ord W (h3 : -9223372036854775808 ≤ ord) (h4 : ord ≤ 9223372036854775807) (hW : Below wr.heap.size wr W) => byOrd_any (fsL i) A1 A2 c1 i c2 3 ord W (HFS.out W hW) (fsL_ok i) (by rw [fsL_len]; omega) (by omega) (by omega) h3 h4)
      rw [fsL_len] at HBN HBO
      rw [nsL_len] at HBN
      clear hsf hsn hlt hi
      obtain ⟨wl, hwl⟩ : ∃ wl, wl = wr := ⟨_, rfl⟩
      subst hwl
      go_wp2_with fail
      go_loopw [7, 8] (fun v7 v8 wr => ∃ j : Nat, j ≤ i ∧ v8 = .int .i64 j ∧ v7 = .bool (isK S j) ∧ Below wl.heap.size wl wr) (fun _ v8 _ => i - (intOf v8).toNat)
      case atStart => exact ⟨0, Nat.zero_le _, rfl, rfl, Below.refl _ _⟩
      case round =>
        obtain ⟨j, hj, rfl, rfl, hbel⟩ := hrel
        have HBW := Lib.hid hbel
        have HEX := Lib.hid (HE.out.below hbel)
        clear hbel
        by_cases hlt : j < i
        · have hjn : j < (nsL i i).length := by rw [nsL_len]; exact hlt
          obtain ⟨bn, off, rfl, hbl, q0, q1⟩ := (HNS.out wr HBW.out).nm hjn
          have hnj : (nsL i i)[j] = (nm j, i - 1 - j) := by simp [nsL]
          rw [hnj] at q0
          simp only at q0
          have hri : (j : Int) < (i : Int) := by omega
          obtain ⟨T, hT⟩ : ∃ T, txt (nm j) = T := ⟨_, rfl⟩
          obtain ⟨h9, hh9⟩ : ∃ h, 100 + (i - 1 - j) = h := ⟨_, rfl⟩
          have hown := byName_own hlt (by omega : i ≤ 200)
          rw [hT, hh9] at hown
          have HNM := Lib.hid (fun W (hW : Below wl.heap.size wl W) => HBN.out T W hW)
          rw [hown] at HNM
          have hbo := byOrd_own hlt
          obtain ⟨o3, ho3⟩ : ∃ o, 3 + j = o := ⟨_, rfl⟩
          have eo3 : (3 : Int) + (j : Int) = (o3 : Int) := by omega
          rw [eo3] at hbo
          obtain ⟨h10, hh10⟩ : ∃ h, 100 + j = h := ⟨_, rfl⟩
          rw [hh10] at hbo
          have HOJ := Lib.hid (fun W (hW : Below wl.heap.size wl W) => HBO.out (o3 : Int) W (by omega) (by omega) hW)
          rw [hbo] at HOJ
          rw [hT] at q0
          have HSUC := Lib.hid (isK_succ S j)
          have HTT := Lib.hid hT
          obtain ⟨n1, hn1⟩ : ∃ q, 100 + i = q := ⟨_, rfl⟩
          obtain ⟨n2, hn2⟩ : ∃ q, n1 - 1 = q := ⟨_, rfl⟩
          have en1 : (100 : Int) + (i : Int) = (n1 : Int) := by omega
          have en2 : (n1 : Int) - 1 = (n2 : Int) := by omega
          have en3 : (n2 : Int) - (j : Int) = (h9 : Int) := by omega
          have eh10 : (100 : Int) + (j : Int) = (h10 : Int) := by omega
          have hbb : n1 ≤ 300 ∧ h9 ≤ 300 ∧ h10 ≤ 300 := by omega
          obtain ⟨hbb1, hbb2, hbb3⟩ := hbb
          have HC := Lib.hid (fun W (hW : Below wr.heap.size wr W) => show W.cell? ⟨w.heap.size, 0, none⟩ = some (.int .i64 3) ∧ W.cell? ⟨w.heap.size, 1, none⟩ = some (.slice A1 i c1) ∧ W.cell? ⟨w.heap.size, 2, none⟩ = some (.slice (some ⟨bn, off, none⟩) i c2) ∧ W.cell? ⟨bn, off + j * 2, none⟩ = some (.string T) from by
            have h1 := (hW.block w.heap.size (lt_of_row' HEX.out.row)).trans HEX.out.row
            refine ⟨?_, ?_, ?_, (hW.cell (p := ⟨bn, off + j * 2, none⟩) hbl).trans q0⟩
            · rw [cell_of_row _ _ _ _ _ _ h1]; rfl
            · rw [cell_of_row _ _ _ _ _ _ h1]; rfl
            · rw [cell_of_row _ _ _ _ _ _ h1]; rfl)
          clear q0 q1 hnj hown hbo hT hh9 ho3 hh10 hn1 hn2
          go_upto_region 12 with (fail)
          obtain ⟨B, HBE0⟩ : ∃ q, wr.heap.size = q := ⟨_, rfl⟩
          have HS := Lib.hid (show Below B wr wr.drew from by rw [← HBE0]; exact (Below.refl _ _).drew)
          have HBE := Lib.hid HBE0
          clear HBE0
          refine wp_region_noPanic ?_
          refine wp_region_K (fun W => Below B wr W) (fun _ => True) 99 (by kernel_rfl) ?_
          refine wpAnyK_take (i := 0) (oi := ?_) (v := ?_) ?_ (by kernel_rfl) (by kernel_rfl) (by kernel_rfl) (fun _ _ _ h => h) (by decide) ?_ HS.out (fun _ => trivial) ?_
          rotate_left 2
          · (simp only [List.getElem?_toArray, List.getElem?_cons_succ, List.getElem?_cons_zero]; rfl)
          · (first | exact Or.inr ⟨by rfl, rfl⟩ | (refine Or.inl ⟨by rfl, ?_⟩; intro W hSw; obtain ⟨hq0, hq1, hq2, hq3⟩ := HC.out W (by rw [HBE.out]; exact hSw); clear hSw; go_simp; try with_reducible rfl))
          try simp only [Act.put, List.setIfInBounds_toArray, List.set_cons_zero, List.set_cons_succ]
          refine wpAnyK_take (i := 1) (oi := ?_) (v := ?_) ?_ (by kernel_rfl) (by kernel_rfl) (by kernel_rfl) (fun _ _ _ h => h) (by decide) ?_ HS.out (fun _ => trivial) ?_
          rotate_left 2
          · (simp only [List.getElem?_toArray, List.getElem?_cons_succ, List.getElem?_cons_zero]; rfl)
          · (first | exact Or.inr ⟨by rfl, rfl⟩ | (refine Or.inl ⟨by rfl, ?_⟩; intro W hSw; clear hSw; go_simp; try with_reducible rfl))
          try simp only [Act.put, List.setIfInBounds_toArray, List.set_cons_zero, List.set_cons_succ]
          refine wpAnyK_take (i := 2) (oi := ?_) (v := ?_) ?_ (by kernel_rfl) (by kernel_rfl) (by kernel_rfl) (fun _ _ _ h => h) (by decide) ?_ HS.out (fun _ => trivial) ?_
          rotate_left 2
          · (simp only [List.getElem?_toArray, List.getElem?_cons_succ, List.getElem?_cons_zero]; rfl)
          · (first | exact Or.inr ⟨by rfl, rfl⟩ | (refine Or.inl ⟨by rfl, ?_⟩; intro W hSw; obtain ⟨hq0, hq1, hq2, hq3⟩ := HC.out W (by rw [HBE.out]; exact hSw); clear hSw; go_simp; try with_reducible rfl))
          try simp only [Act.put, List.setIfInBounds_toArray, List.set_cons_zero, List.set_cons_succ]
          refine wpAnyK_take (i := 3) (oi := ?_) (v := ?_) ?_ (by kernel_rfl) (by kernel_rfl) (by kernel_rfl) (fun _ _ _ h => h) (by decide) ?_ HS.out (fun _ => trivial) ?_
          rotate_left 2
          · (simp only [List.getElem?_toArray, List.getElem?_cons_succ, List.getElem?_cons_zero]; rfl)
          · (first | exact Or.inr ⟨by rfl, rfl⟩ | (refine Or.inl ⟨by rfl, ?_⟩; intro W hSw; clear hSw; go_simp; try with_reducible rfl))
          try simp only [Act.put, List.setIfInBounds_toArray, List.set_cons_zero, List.set_cons_succ]
          refine wpAnyK_take (i := 4) (oi := ?_) (v := ?_) ?_ (by kernel_rfl) (by kernel_rfl) (by kernel_rfl) (fun _ _ _ h => h) (by decide) ?_ HS.out (fun _ => trivial) ?_
          rotate_left 2
          · (simp only [List.getElem?_toArray, List.getElem?_cons_succ, List.getElem?_cons_zero]; rfl)
          · (first | exact Or.inr ⟨by rfl, rfl⟩ | (refine Or.inl ⟨by rfl, ?_⟩; intro W hSw; clear hSw; go_simp; try with_reducible rfl))
          try simp only [Act.put, List.setIfInBounds_toArray, List.set_cons_zero, List.set_cons_succ]
          refine wpAnyK_take (i := 5) (oi := ?_) (v := ?_) ?_ (by kernel_rfl) (by kernel_rfl) (by kernel_rfl) (fun _ _ _ h => h) (by decide) ?_ HS.out (fun _ => trivial) ?_
          rotate_left 2
          · (simp only [List.getElem?_toArray, List.getElem?_cons_succ, List.getElem?_cons_zero]; rfl)
          · (first | exact Or.inr ⟨by rfl, rfl⟩ | (refine Or.inl ⟨by rfl, ?_⟩; intro W hSw; clear hSw; go_simp; try with_reducible rfl))
          try simp only [Act.put, List.setIfInBounds_toArray, List.set_cons_zero, List.set_cons_succ]
          refine wpAnyK_take (i := 6) (oi := ?_) (v := ?_) ?_ (by kernel_rfl) (by kernel_rfl) (by kernel_rfl) (fun _ _ _ h => h) (by decide) ?_ HS.out (fun _ => trivial) ?_
          rotate_left 2
          · (simp only [List.getElem?_toArray, List.getElem?_cons_succ, List.getElem?_cons_zero]; rfl)
          · (first | exact Or.inr ⟨by rfl, rfl⟩ | (refine Or.inl ⟨by rfl, ?_⟩; intro W hSw; obtain ⟨hq0, hq1, hq2, hq3⟩ := HC.out W (by rw [HBE.out]; exact hSw); clear hSw; go_simp; try with_reducible rfl))
          try simp only [Act.put, List.setIfInBounds_toArray, List.set_cons_zero, List.set_cons_succ]
          have HBL := Lib.hid (fun W (hW : Below B wr W) => show B ≤ W.heap.size from by rw [← HBE.out]; exact hW.size)
          have HBB := Lib.hid (show wl.heap.size ≤ B from by rw [← HBE.out]; exact HBW.out.size)
          have HBWW := Lib.hid (fun W (hW : Below B wr W) => HBW.out.trans (hW.mono HBB.out))
          have HCB := Lib.hid (fun W (hW : Below B wr W) => HC.out W (by rw [HBE.out]; exact hW))
          have HEB := Lib.hid (fun W (hW : Below B wr W) => HEX.out.below (by rw [HBE.out]; exact hW))
          refine wpAnyK_two (i := 7) (j := 11) (o := ?_) (o2 := ?_) (by kernel_rfl) ?_ ?_ (fun K hK => ?callA) (fun K hK => ?allocA)
          rotate_left 2
          · (simp only [List.getElem?_toArray, List.getElem?_cons_succ, List.getElem?_cons_zero]; rfl)
          · (simp only [List.getElem?_toArray, List.getElem?_cons_succ, List.getElem?_cons_zero]; rfl)
          case' callA =>
            go_simp
            go_at_call 12
            refine (HNM.out _ (HBWW.out _ HS.out)).mono ?_
            rintro e w2 ⟨hq, hw2⟩
            have hq' : e = .returned (.tuple #[.agg #[.int .i64 h9, .string ⟨#[]⟩], .bool true]) := hq
            subst hq'
            have HS2 := Lib.hid (HS.out.trans (hw2.mono (HBL.out _ HS.out)))
            clear hw2 hq
            refine hK.out _ _ HS2.out (fun _ => trivial) ?_
            clear hK K
            try simp only [Act.put, List.setIfInBounds_toArray, List.set_cons_zero, List.set_cons_succ]
            refine wpAnyK_take (i := 8) (oi := ?_) (v := ?_) ?_ (by kernel_rfl) (by kernel_rfl) (by kernel_rfl) (fun _ _ _ h => h) (by decide) ?_ HS2.out (fun _ => trivial) ?_
            rotate_left 2
            · (simp only [List.getElem?_toArray, List.getElem?_cons_succ, List.getElem?_cons_zero]; rfl)
            · (first | exact Or.inr ⟨by rfl, rfl⟩ | (refine Or.inl ⟨by rfl, ?_⟩; intro W hSw; clear hSw; go_simp; try with_reducible rfl))
            try simp only [Act.put, List.setIfInBounds_toArray, List.set_cons_zero, List.set_cons_succ]
            refine wpAnyK_take (i := 9) (oi := ?_) (v := ?_) ?_ (by kernel_rfl) (by kernel_rfl) (by kernel_rfl) (fun _ _ _ h => h) (by decide) ?_ HS2.out (fun _ => trivial) ?_
            rotate_left 2
            · (simp only [List.getElem?_toArray, List.getElem?_cons_succ, List.getElem?_cons_zero]; rfl)
            · (first | exact Or.inr ⟨by rfl, rfl⟩ | (refine Or.inl ⟨by rfl, ?_⟩; intro W hSw; clear hSw; go_simp; try with_reducible rfl))
            try simp only [Act.put, List.setIfInBounds_toArray, List.set_cons_zero, List.set_cons_succ]
            refine wpAnyK_take (i := 10) (oi := ?_) (v := ?_) ?_ (by kernel_rfl) (by kernel_rfl) (by kernel_rfl) (fun _ _ _ h => h) (by decide) ?_ HS2.out (fun _ => trivial) ?_
            rotate_left 2
            · (simp only [List.getElem?_toArray, List.getElem?_cons_succ, List.getElem?_cons_zero]; rfl)
            · (first | exact Or.inr ⟨by rfl, rfl⟩ | (refine Or.inl ⟨by rfl, ?_⟩; intro W hSw; clear hSw; go_simp; try with_reducible rfl))
            try simp only [Act.put, List.setIfInBounds_toArray, List.set_cons_zero, List.set_cons_succ]
            refine wpAnyK_one (i := 11) (o := ?_) (by kernel_rfl) ?_ (fun K hK => ?_)
            rotate_left 1
            · (simp only [List.getElem?_toArray, List.getElem?_cons_succ, List.getElem?_cons_zero]; rfl)
            go_simp
            have HS3 := Lib.hid (HS2.out.alloc (HBL.out _ HS2.out) (.cells #[.int .i64 0, .string ⟨#[]⟩] 37))
            have HZ3 := Lib.hid (heap_alloc_new w2 (.cells #[.int .i64 0, .string ⟨#[]⟩] 37))
            have HG3 := Lib.hid (HBL.out _ HS2.out)
            refine hK.out _ _ HS3.out (fun _ => trivial) ?_
            clear hK K
            try simp only [Act.put, List.setIfInBounds_toArray, List.set_cons_zero, List.set_cons_succ]
            generalize w2.alloc (.cells #[.int .i64 0, .string ⟨#[]⟩] 37) = w3 at *
            generalize w2.heap.size = b9 at *
          case' allocA =>
            go_simp
            have HS2 := Lib.hid (show Below B wr (wr.alloc (.cells #[.int .i64 0, .string ⟨#[]⟩] 37)).drew from HS.out.alloc (HBL.out _ HS.out) (.cells #[.int .i64 0, .string ⟨#[]⟩] 37))
            have HZ2 := Lib.hid (show (wr.alloc (.cells #[.int .i64 0, .string ⟨#[]⟩] 37)).drew.heap[wr.heap.size]? = some (.cells #[.int .i64 0, .string ⟨#[]⟩] 37 (0, 0)) from heap_alloc_new wr (.cells #[.int .i64 0, .string ⟨#[]⟩] 37))
            have HG3 := Lib.hid (show B ≤ wr.heap.size from HBL.out _ (Below.refl _ _))
            refine hK.out _ _ HS2.out (fun _ => trivial) ?_
            clear hK K
            try simp only [Act.put, List.setIfInBounds_toArray, List.set_cons_zero, List.set_cons_succ]
            generalize (wr.alloc (.cells #[.int .i64 0, .string ⟨#[]⟩] 37)).drew = w2 at *
            generalize wr.heap.size = b9 at *
            refine wpAnyK_one (i := 7) (o := ?_) (by kernel_rfl) ?_ (fun K hK => ?_)
            rotate_left 1
            · (simp only [List.getElem?_toArray, List.getElem?_cons_succ, List.getElem?_cons_zero]; rfl)
            go_simp
            go_at_call 12
            refine (HNM.out _ (HBWW.out _ HS2.out)).mono ?_
            rintro e w3 ⟨hq, hw3⟩
            have hq' : e = .returned (.tuple #[.agg #[.int .i64 h9, .string ⟨#[]⟩], .bool true]) := hq
            subst hq'
            have HS3 := Lib.hid (HS2.out.trans (hw3.mono (HBL.out _ HS2.out)))
            have HZ3 := Lib.hid ((hw3.block b9 (lt_of_row' HZ2.out)).trans HZ2.out)
            clear hw3 hq
            refine hK.out _ _ HS3.out (fun _ => trivial) ?_
            clear hK K
            try simp only [Act.put, List.setIfInBounds_toArray, List.set_cons_zero, List.set_cons_succ]
            refine wpAnyK_take (i := 8) (oi := ?_) (v := ?_) ?_ (by kernel_rfl) (by kernel_rfl) (by kernel_rfl) (fun _ _ _ h => h) (by decide) ?_ HS3.out (fun _ => trivial) ?_
            rotate_left 2
            · (simp only [List.getElem?_toArray, List.getElem?_cons_succ, List.getElem?_cons_zero]; rfl)
            · (first | exact Or.inr ⟨by rfl, rfl⟩ | (refine Or.inl ⟨by rfl, ?_⟩; intro W hSw; clear hSw; go_simp; try with_reducible rfl))
            try simp only [Act.put, List.setIfInBounds_toArray, List.set_cons_zero, List.set_cons_succ]
            refine wpAnyK_take (i := 9) (oi := ?_) (v := ?_) ?_ (by kernel_rfl) (by kernel_rfl) (by kernel_rfl) (fun _ _ _ h => h) (by decide) ?_ HS3.out (fun _ => trivial) ?_
            rotate_left 2
            · (simp only [List.getElem?_toArray, List.getElem?_cons_succ, List.getElem?_cons_zero]; rfl)
            · (first | exact Or.inr ⟨by rfl, rfl⟩ | (refine Or.inl ⟨by rfl, ?_⟩; intro W hSw; clear hSw; go_simp; try with_reducible rfl))
            try simp only [Act.put, List.setIfInBounds_toArray, List.set_cons_zero, List.set_cons_succ]
            refine wpAnyK_take (i := 10) (oi := ?_) (v := ?_) ?_ (by kernel_rfl) (by kernel_rfl) (by kernel_rfl) (fun _ _ _ h => h) (by decide) ?_ HS3.out (fun _ => trivial) ?_
            rotate_left 2
            · (simp only [List.getElem?_toArray, List.getElem?_cons_succ, List.getElem?_cons_zero]; rfl)
            · (first | exact Or.inr ⟨by rfl, rfl⟩ | (refine Or.inl ⟨by rfl, ?_⟩; intro W hSw; clear hSw; go_simp; try with_reducible rfl))
            try simp only [Act.put, List.setIfInBounds_toArray, List.set_cons_zero, List.set_cons_succ]
          all_goals
            refine wpAnyK_one (i := 12) (o := ?_) (by kernel_rfl) ?_ (fun K hK => ?_)
            rotate_left 1
            · (simp only [List.getElem?_toArray, List.getElem?_cons_succ, List.getElem?_cons_zero]; rfl)
            refine step_store_row' rfl 37 _ _ rfl b9 #[.int .i64 h9, .string ⟨#[]⟩] ?_ ?_ 37 #[.int .i64 0, .string ⟨#[]⟩] HZ3.out (by kernel_rfl) rfl (by simp [Value.oneCell']) ?_
            · first | rfl | simp [Act.eval]
            · first | rfl | simp [Act.eval]
            have HS4 := Lib.hid (below_setRow HS3.out HG3.out #[.int .i64 h9, .string ⟨#[]⟩])
            have HR4 := Lib.hid (setRow_heap w3 b9 _ #[.int .i64 h9, .string ⟨#[]⟩] _ _ HZ3.out)
            refine hK.out _ _ HS4.out (fun _ => trivial) ?_
            clear hK K
            try simp only [Act.put, List.setIfInBounds_toArray, List.set_cons_zero, List.set_cons_succ]
            refine wpAnyK_one (i := 13) (o := ?_) (by kernel_rfl) ?_ (fun K hK => ?_)
            rotate_left 1
            · (simp only [List.getElem?_toArray, List.getElem?_cons_succ, List.getElem?_cons_zero]; rfl)
            go_simp
            refine hK.out _ _ HS4.out (fun _ => trivial) ?_
            clear hK K
            try simp only [Act.put, List.setIfInBounds_toArray, List.set_cons_zero, List.set_cons_succ]
            refine wpAnyK_done (by kernel_rfl) ?_ _
            refine NoPanic.normal ?_
            generalize w3.setRow b9 #[.int .i64 h9, .string ⟨#[]⟩] = w7 at *
            obtain ⟨y0, y1, y2, y3⟩ := HCB.out w7 HS4.out
            go_wp2_with fail
            refine (HOJ.out _ (HBWW.out _ HS4.out)).mono ?_
            rintro e w8 ⟨hq, hw8⟩
            have hq' : e = .returned (.tuple #[.agg #[.int .i64 h10, .string ⟨#[]⟩], .bool true]) := hq
            subst hq'
            have HS8 := Lib.hid (HS4.out.trans (hw8.mono (HBL.out _ HS4.out)))
            have hr8 := (hw8.block b9 (lt_of_row' HR4.out)).trans HR4.out
            have hr9 := (Below.heap_alloc w8 (.cells #[.int .i64 h10, .string ⟨#[]⟩] 37) b9 (lt_of_row' hr8)).trans hr8
            have HS9 := Lib.hid (HS8.out.alloc (HBL.out _ HS8.out) (.cells #[.int .i64 h10, .string ⟨#[]⟩] 37))
            have k0 : (w8.alloc (.cells #[.int .i64 h10, .string ⟨#[]⟩] 37)).cell? ⟨b9, 0, none⟩ = some (.int .i64 h9) := by rw [cell_of_row _ _ _ _ _ _ hr9]; rfl
            obtain ⟨z0, z1, z2, z3⟩ := HCB.out _ HS9.out
            clear y0 y1 y2 y3 hq hw8 hr8 hr9 z0 z1
            have HSU := Lib.hid HSUC.out
            cases hp : isK S j
            · rw [hp] at HSU
              have hsu := HSU.out
              rw [HTT.out, Bool.false_or] at hsu
              have HSUF := Lib.hid hsu
              clear hsu
              go_wp2_with fail
              go_roundw
              case rel => exact ⟨j + 1, by omega, by go_num, by rw [HSUF.out], HBWW.out _ HS9.out⟩
              case measure => simp [intOf]; omega
            · rw [hp] at HSU
              have HSUF := Lib.hid (show isK S (j + 1) = true from by rw [HSU.out]; rfl)
              go_wp2_with fail
              go_roundw
              case rel => exact ⟨j + 1, by omega, by go_num, by rw [HSUF.out], HBWW.out _ HS9.out⟩
              case measure => simp [intOf]; omega
        · obtain rfl : j = i := by omega
          obtain ⟨R, hR⟩ : ∃ R, byNameM (fsL j) S.toList (nsL j j) = R := ⟨_, rfl⟩
          have his := byName_is j S
          rw [hR] at his
          have HNM := Lib.hid (fun W (hW : Below wl.heap.size wl W) => HBN.out S W hW)
          rw [hR] at HNM
          obtain ⟨o3, ho3⟩ : ∃ o, 3 + j = o := ⟨_, rfl⟩
          have eo3 : (3 : Int) + (j : Int) = (o3 : Int) := by omega
          have hhi := byOrd_high j
          rw [eo3] at hhi
          have HO2 := Lib.hid (fun W (hW : Below wl.heap.size wl W) => HBO.out 2 W (by omega) (by omega) hW)
          have HO3 := Lib.hid (fun W (hW : Below wl.heap.size wl W) => HBO.out (o3 : Int) W (by omega) (by omega) hW)
          rw [byOrd_low] at HO2
          rw [hhi] at HO3
          have ho3b : o3 ≤ 300 := by omega
          have HIS := Lib.hid his
          generalize isK S j = BK at *
          have HEB := Lib.hid (fun W (hW : Below wl.heap.size wl W) => HE.out.below hW)
          clear hR hhi ho3 his HBN HBO HE
          have x0a : wr.cell? ⟨w.heap.size, 0, none⟩ = some (.int .i64 3) := by rw [cell_of_row _ _ _ _ _ _ HEX.out.row]; rfl
          have x1a : wr.cell? ⟨w.heap.size, 1, none⟩ = some (.slice A1 j c1) := by rw [cell_of_row _ _ _ _ _ _ HEX.out.row]; rfl
          have x2a : wr.cell? ⟨w.heap.size, 2, none⟩ = some (.slice A2 j c2) := by rw [cell_of_row _ _ _ _ _ _ HEX.out.row]; rfl
          go_wp2_with fail
          refine (HNM.out _ HBW.out).mono ?_
          rintro e w2 ⟨hq, hw2⟩
          obtain ⟨X, T, rfl⟩ := hq.isF
          rw [HIS.out]
          have HW2 := Lib.hid (HBW.out.trans (hw2.mono HBW.out.size))
          have HW3 := Lib.hid (HW2.out.alloc HW2.out.size (.cells #[.int .i64 X, .string T] 37))
          clear hq hw2 x0a x1a x2a
          have x0b : (w2.alloc (.cells #[.int .i64 X, .string T] 37)).cell? ⟨w.heap.size, 0, none⟩ = some (.int .i64 3) := by rw [cell_of_row _ _ _ _ _ _ (HEB.out _ HW3.out).row]; rfl
          have x1b : (w2.alloc (.cells #[.int .i64 X, .string T] 37)).cell? ⟨w.heap.size, 1, none⟩ = some (.slice A1 j c1) := by rw [cell_of_row _ _ _ _ _ _ (HEB.out _ HW3.out).row]; rfl
          have x2b : (w2.alloc (.cells #[.int .i64 X, .string T] 37)).cell? ⟨w.heap.size, 2, none⟩ = some (.slice A2 j c2) := by rw [cell_of_row _ _ _ _ _ _ (HEB.out _ HW3.out).row]; rfl
          go_wp2_with fail
          refine (HO2.out _ HW3.out).mono ?_
          rintro e w4 ⟨hq, hw4⟩
          have hq' : e = .returned (.tuple #[.agg #[.int .i64 0, .string ByteArray.empty], .bool false]) := hq
          subst hq'
          have HW4 := Lib.hid (HW3.out.trans (hw4.mono HW3.out.size))
          have HW5 := Lib.hid (HW4.out.alloc HW4.out.size (.cells #[.int .i64 0, .string ByteArray.empty] 37))
          clear hq hw4 x0b x1b x2b
          have x0c : (w4.alloc (.cells #[.int .i64 0, .string ByteArray.empty] 37)).cell? ⟨w.heap.size, 0, none⟩ = some (.int .i64 3) := by rw [cell_of_row _ _ _ _ _ _ (HEB.out _ HW5.out).row]; rfl
          have x1c : (w4.alloc (.cells #[.int .i64 0, .string ByteArray.empty] 37)).cell? ⟨w.heap.size, 1, none⟩ = some (.slice A1 j c1) := by rw [cell_of_row _ _ _ _ _ _ (HEB.out _ HW5.out).row]; rfl
          have x2c : (w4.alloc (.cells #[.int .i64 0, .string ByteArray.empty] 37)).cell? ⟨w.heap.size, 2, none⟩ = some (.slice A2 j c2) := by rw [cell_of_row _ _ _ _ _ _ (HEB.out _ HW5.out).row]; rfl
          go_wp2_with fail
          refine (HO3.out _ HW5.out).mono ?_
          rintro e w6 ⟨hq, hw6⟩
          have hq' : e = .returned (.tuple #[.agg #[.int .i64 0, .string ByteArray.empty], .bool false]) := hq
          subst hq'
          have HW6 := Lib.hid (HW5.out.trans (hw6.mono HW5.out.size))
          have HW7 := Lib.hid (HW6.out.alloc HW6.out.size (.cells #[.int .i64 0, .string ByteArray.empty] 37))
          clear hq hw6 x0c x1c x2c
          go_wp2_with fail
          refine (HAW.out _).mono ?_
          rintro e w8 ⟨rfl, hw8⟩
          have HW8 := Lib.hid ((HEB.out _ HW7.out).bel.trans (hw8.mono (HEB.out _ HW7.out).bel.size))
          clear hw8
          go_wp2_with fail
          go_ret
          exact ⟨rfl, HW8.out⟩
end Go.Proofs.Ytbjabncefhgefaa
