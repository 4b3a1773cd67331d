/- package exps: ByName, ByOrd. -/
import Derived.Test.YtbjabncefhgefaaExpF
namespace Go.Proofs.Ytbjabncefhgefaa
open Go.ChangeShapes Go.WideShapes Go.ChangeAt Go.RowKit
set_option linter.unusedVariables false
set_option linter.unusedSimpArgs false

theorem AtQ.form {r : Option FnV} {e : Ending} (h : AtQ r e) : ∃ (X : Nat) (T : ByteArray) (B : Bool), e = .returned (.tuple #[.agg #[.int .i64 X, .string T], .bool B]) := by
  unfold AtQ at h
  cases r with
  | none => exact ⟨0, _, _, h⟩
  | some f => exact ⟨_, _, _, h⟩
theorem fnOne {n : Int} {T : ByteArray} : (#[.int .i64 n, .string T] : Array Value).all (·.oneCell') = true := by simp [Value.oneCell']
theorem fnInfo {x y : Value} : (Try.prog.info? 37).map (·.size) = some (#[x, y] : Array Value).size := by kernel_rfl

def byNameM (fs : List FnV) (S : List UInt8) : List NmV → Option FnV
  | [] => none
  | x :: r => if (txt x.1).toList == S then atM fs x.2 else byNameM fs S r

set_option maxRecDepth 100000 in
set_option maxHeartbeats 2000000 in
theorem byName_any (fs : List FnV) (ns : List NmV) (F N : Option Addr) (fc nc : Nat) (base : Int) (S : ByteArray) (w : World) (hs : SlT gC 2 w F fs) (hn : SlT nC 2 w N ns) (hb : ∀ f ∈ fs, FnOk f) (hl : fs.length ≤ 1000000) (hnl : ns.length ≤ 1000000) :
    Calls Try.prog 12 #[.agg #[.int .i64 base, .slice F fs.length fc, .slice N ns.length nc], .string S] w fun e w' => AtQ (byNameM fs S.toList ns) e ∧ Below w.heap.size w w' := by
  have HAT := Lib.hid (fun ix W (hW : Below w.heap.size w W) => at_any fs F fc N ns.length nc base ix W (hs.below hW) hb hl)
  have HN := Lib.hid (fun W (hW : Below w.heap.size w W) => hn.below hW)
  obtain ⟨R, hR⟩ : ∃ R, byNameM fs S.toList ns = R := ⟨_, rfl⟩
  rw [hR]
  have HR := Lib.hid hR
  clear hs hn hb hR
  go_enter Try.func12, Try.ntmps12
  have HX0 := Lib.hid (show ((w.alloc (.cells #[.int .i64 base, .slice F fs.length fc, .slice N ns.length nc] 32)).alloc (.cells #[.int .i64 0, .string ⟨#[]⟩] 37)).heap[w.heap.size]? = some (.cells #[.int .i64 base, .slice F fs.length fc, .slice N ns.length nc] 32 (0, 0)) from
    (Below.heap_alloc _ _ w.heap.size (by simp)).trans (heap_alloc_new w _))
  have HF0 := Lib.hid (show ((w.alloc (.cells #[.int .i64 base, .slice F fs.length fc, .slice N ns.length nc] 32)).alloc (.cells #[.int .i64 0, .string ⟨#[]⟩] 37)).heap[w.heap.size + 1]? = some (.cells #[.int .i64 0, .string ⟨#[]⟩] 37 (0, 0)) from by
    have h := heap_alloc_new (w.alloc (.cells #[.int .i64 base, .slice F fs.length fc, .slice N ns.length nc] 32)) (.cells #[.int .i64 0, .string ⟨#[]⟩] 37)
    rwa [show (w.alloc (.cells #[.int .i64 base, .slice F fs.length fc, .slice N ns.length nc] 32)).heap.size = w.heap.size + 1 by simp] at h)
  have HB0 := Lib.hid (show Below w.heap.size w ((w.alloc (.cells #[.int .i64 base, .slice F fs.length fc, .slice N ns.length nc] 32)).alloc (.cells #[.int .i64 0, .string ⟨#[]⟩] 37)) from by go_grown)
  go_wp2_with fail
  go_loopw [11] (fun v11 wr => ∃ i : Nat, i ≤ ns.length ∧ v11 = .int .i64 i ∧ byNameM fs S.toList (ns.drop i) = R ∧ Below w.heap.size w wr ∧ wr.heap[w.heap.size]? = some (.cells #[.int .i64 base, .slice F fs.length fc, .slice N ns.length nc] 32 (0, 0)) ∧ wr.heap[w.heap.size + 1]? = some (.cells #[.int .i64 0, .string ⟨#[]⟩] 37 (0, 0))) (fun v11 _ => ns.length - (intOf v11).toNat)
  case atStart => exact ⟨0, Nat.zero_le _, rfl, HR.out, HB0.out, HX0.out, HF0.out⟩
  case round =>
    obtain ⟨i, hi, rfl, hre, hbel, hxr, hfr⟩ := hrel
    have HRE := Lib.hid hre
    have HBW := Lib.hid hbel
    have HXR := Lib.hid hxr
    have HFR := Lib.hid hfr
    clear hre hbel hxr hfr HX0 HF0 HB0
    by_cases hlt : i < ns.length
    · obtain ⟨b, off, rfl, hbl, q0, q1⟩ := (HN.out wr HBW.out).nm hlt
      have hre := HRE.out
      rw [List.drop_eq_getElem_cons hlt] at hre
      simp only [byNameM] at hre
      obtain ⟨⟨t, x⟩, hx⟩ : ∃ x, ns[i] = x := ⟨_, rfl⟩
      rw [hx] at hre q0 q1
      simp only at hre q0 q1
      have HRE2 := Lib.hid hre
      clear hre hx
      by_cases heq : ((txt t).toList == S.toList) = true
      · have hre := HRE2.out
        rw [if_pos heq] at hre
        have HRE3 := Lib.hid hre
        have hx0 : wr.cell? ⟨w.heap.size, 0, none⟩ = some (.int .i64 base) := by rw [cell_of_row _ _ _ _ _ _ HXR.out]; rfl
        have hx1 : wr.cell? ⟨w.heap.size, 1, none⟩ = some (.slice F fs.length fc) := by rw [cell_of_row _ _ _ _ _ _ HXR.out]; rfl
        have hx2 : wr.cell? ⟨w.heap.size, 2, none⟩ = some (.slice (some ⟨b, off, none⟩) ns.length nc) := by rw [cell_of_row _ _ _ _ _ _ HXR.out]; rfl
        have hlx : w.heap.size < wr.heap.size := lt_of_row' HXR.out
        clear hre HRE2
        go_wp2_with fail
        refine (HAT.out x _ (HBW.out.alloc HBW.out.size _)).mono ?_
        rintro e w2 ⟨hq, hw2⟩
        have hw2' : Below wr.heap.size wr w2 := ((Below.refl wr.heap.size wr).alloc (Nat.le_refl _) _).trans (hw2.mono (by simp))
        have HB2 := Lib.hid (HBW.out.trans (hw2'.mono HBW.out.size))
        have HF2 := Lib.hid ((hw2'.block (w.heap.size + 1) (lt_of_row' HFR.out)).trans HFR.out)
        obtain ⟨X, T, B, rfl⟩ := hq.form
        rw [HRE3.out] at hq
        have HQ := Lib.hid hq
        obtain ⟨w9, hw9⟩ : ∃ w9, w2.setRow (w.heap.size + 1) #[.int .i64 X, .string T] = w9 := ⟨_, rfl⟩
        have HE9 := Lib.hid hw9
        have HR9 := Lib.hid (show w9.heap[w.heap.size + 1]? = some (.cells #[.int .i64 X, .string T] 37 (0, 0)) from by rw [← hw9]; exact setRow_heap _ _ _ _ _ _ HF2.out)
        have HB9 := Lib.hid (show Below w.heap.size w w9 from by rw [← hw9]; exact below_setRow HB2.out (Nat.le_succ _) _)
        have k0 : w9.cell? ⟨w.heap.size + 1, 0, none⟩ = some (.int .i64 X) := by rw [cell_of_row _ _ _ _ _ _ HR9.out]; rfl
        have k1 : w9.cell? ⟨w.heap.size + 1, 1, none⟩ = some (.string T) := by rw [cell_of_row _ _ _ _ _ _ HR9.out]; rfl
        clear hq hw2 hw2' hw9 hx0 hx1 hx2 q0 q1
        go_wp2_with (first | (refine wpList_store_row rfl 37 _ _ rfl (w.heap.size + 1) #[.int .i64 X, .string T] rfl rfl 37 #[.int .i64 0, .string ⟨#[]⟩] HF2.out fnInfo rfl fnOne ?_; refine (congrArg _ HE9.out).mpr ?_) | fail)
        refine bodyPost_ret (v := .tuple #[.agg #[.int .i64 X, .string T], .bool B]) (by simp [results, Try.results12, go_sem, k0, k1]) rfl ⟨?_, HB9.out⟩
        exact HQ.out
      · have hre := HRE2.out
        rw [if_neg heq] at hre
        have HRE3 := Lib.hid hre
        have hne : ((txt t).toList == S.toList) = false := by simpa using heq
        clear hre HRE2 heq
        go_wp2_with fail
        go_roundw
        case rel => exact ⟨i + 1, by omega, by go_num, HRE3.out, HBW.out.alloc HBW.out.size _, (Below.heap_alloc _ _ _ (lt_of_row' HXR.out)).trans HXR.out, (Below.heap_alloc _ _ _ (lt_of_row' HFR.out)).trans HFR.out⟩
        case measure => simp [intOf]; omega
    · obtain rfl : i = ns.length := by omega
      have hre := HRE.out
      rw [List.drop_length] at hre
      have hre' : none = R := hre
      subst hre'
      obtain ⟨w9, hw9⟩ : ∃ w9, wr.setRow (w.heap.size + 1) #[.int .i64 0, .string ⟨#[]⟩] = w9 := ⟨_, rfl⟩
      have HE9 := Lib.hid hw9
      have HR9 := Lib.hid (show w9.heap[w.heap.size + 1]? = some (.cells #[.int .i64 0, .string ⟨#[]⟩] 37 (0, 0)) from by rw [← hw9]; exact setRow_heap _ _ _ _ _ _ HFR.out)
      have HB9 := Lib.hid (show Below w.heap.size w w9 from by rw [← hw9]; exact below_setRow HBW.out (Nat.le_succ _) _)
      have k0 : w9.cell? ⟨w.heap.size + 1, 0, none⟩ = some (.int .i64 0) := by rw [cell_of_row _ _ _ _ _ _ HR9.out]; rfl
      have k1 : w9.cell? ⟨w.heap.size + 1, 1, none⟩ = some (.string ⟨#[]⟩) := by rw [cell_of_row _ _ _ _ _ _ HR9.out]; rfl
      clear hw9 hre
      go_wp2_with (first | (refine wpList_store_row rfl 37 _ _ rfl (w.heap.size + 1) #[.int .i64 0, .string ⟨#[]⟩] rfl rfl 37 #[.int .i64 0, .string ⟨#[]⟩] HFR.out fnInfo rfl fnOne ?_; refine (congrArg _ HE9.out).mpr ?_) | fail)
      refine bodyPost_ret (v := .tuple #[.agg #[.int .i64 0, .string ⟨#[]⟩], .bool false]) (by simp [results, Try.results12, go_sem, k0, k1]) rfl ⟨?_, HB9.out⟩
      exact rfl

def byOrdM (fs : List FnV) (base ord : Int) : Option FnV := if ord < base then none else atM fs (ord - base)
set_option maxRecDepth 100000 in
set_option maxHeartbeats 2000000 in
theorem byOrd_any (fs : List FnV) (F N : Option Addr) (fc nn nc : Nat) (base ord : Int) (w : World) (hs : SlT gC 2 w F fs) (hb : ∀ f ∈ fs, FnOk f) (hl : fs.length ≤ 1000000) (h1 : 0 ≤ base) (h2 : base ≤ 1000000) (h3 : -9223372036854775808 ≤ ord) (h4 : ord ≤ 9223372036854775807) :
    Calls Try.prog 13 #[.agg #[.int .i64 base, .slice F fs.length fc, .slice N nn nc], .int .i64 ord] w fun e w' => AtQ (byOrdM fs base ord) e ∧ Below w.heap.size w w' := by
  have HAT := Lib.hid (fun ix W (hW : Below w.heap.size w W) => at_any fs F fc N nn nc base ix W (hs.below hW) hb hl)
  obtain ⟨R, hR⟩ : ∃ R, byOrdM fs base ord = R := ⟨_, rfl⟩
  rw [hR]
  unfold byOrdM at hR
  clear hs hb
  by_cases c : ord < base
  · rw [if_pos c] at hR
    subst hR
    clear HAT
    go_enter Try.func13, Try.ntmps13
    go_wp2_with fail
    refine bodyPost_ret (v := .tuple #[.agg #[.int .i64 0, .string ByteArray.empty], .bool false]) (by simp [results, Try.results13, go_sem]; rfl) rfl ⟨rfl, by go_grown⟩
  · rw [if_neg c] at hR
    obtain ⟨d, hd⟩ : ∃ d, ord - base = d := ⟨_, rfl⟩
    rw [hd] at hR
    have hw : IntKind.i64.wrap d = d := by rw [IntKind.wrap_i64]; omega
    have HRE := Lib.hid hR
    clear hR h3 h4
    go_enter Try.func13, Try.ntmps13
    go_wp2_with fail
    refine (HAT.out d _ (by go_grown)).mono ?_
    rintro e w2 ⟨hq, hw2⟩
    rw [HRE.out] at hq
    have hf : w2.heap[w.heap.size + 1]? = some (.cells #[.int .i64 0, .string ⟨#[]⟩] 37 (0, 0)) := (hw2.block (w.heap.size + 1) (by simp)).trans (by
      have h := heap_alloc_new (w.alloc (.cells #[.int .i64 base, .slice F fs.length fc, .slice N nn nc] 32)) (.cells #[.int .i64 0, .string ⟨#[]⟩] 37)
      rwa [show (w.alloc (.cells #[.int .i64 base, .slice F fs.length fc, .slice N nn nc] 32)).heap.size = w.heap.size + 1 by simp] at h)
    have HF2 := Lib.hid hf
    have HB2 := Lib.hid (show Below w.heap.size w w2 from (((Below.refl w.heap.size w).alloc (Nat.le_refl _) _).alloc (by simp) _).trans (hw2.mono (by simp; omega)))
    obtain ⟨X, T, B, rfl⟩ := hq.form
    have HQ := Lib.hid hq
    obtain ⟨w9, hw9⟩ : ∃ w9, w2.setRow (w.heap.size + 1) #[.int .i64 X, .string T] = w9 := ⟨_, rfl⟩
    have HE9 := Lib.hid hw9
    have HR9 := Lib.hid (show w9.heap[w.heap.size + 1]? = some (.cells #[.int .i64 X, .string T] 37 (0, 0)) from by rw [← hw9]; exact setRow_heap _ _ _ _ _ _ HF2.out)
    have HB9 := Lib.hid (show Below w.heap.size w w9 from by rw [← hw9]; exact below_setRow HB2.out (Nat.le_succ _) _)
    have k0 : w9.cell? ⟨w.heap.size + 1, 0, none⟩ = some (.int .i64 X) := by rw [cell_of_row _ _ _ _ _ _ HR9.out]; rfl
    have k1 : w9.cell? ⟨w.heap.size + 1, 1, none⟩ = some (.string T) := by rw [cell_of_row _ _ _ _ _ _ HR9.out]; rfl
    clear hq hw2 hw9 hf hd hw
    go_wp2_with (first | (refine wpList_store_row rfl 37 _ _ rfl (w.heap.size + 1) #[.int .i64 X, .string T] rfl rfl 37 #[.int .i64 0, .string ⟨#[]⟩] HF2.out fnInfo rfl fnOne ?_; refine (congrArg _ HE9.out).mpr ?_) | fail)
    refine bodyPost_ret (v := .tuple #[.agg #[.int .i64 X, .string T], .bool B]) (by simp [results, Try.results13, go_sem, k0, k1]) rfl ⟨?_, HB9.out⟩
    exact HQ.out
end Go.Proofs.Ytbjabncefhgefaa
