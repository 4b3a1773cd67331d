/- law 16: CpuGuards. -/
import Derived.Test.YthbgmlmcjnlopaaMchS
namespace Go.Proofs.Ythbgmlmcjnlopaa
open Go.ChangeShapes Go.WideShapes Go.ChangeAt Go.RowKit
set_option linter.unusedVariables false
set_option linter.unusedSimpArgs false
set_option maxRecDepth 100000

/-- 48 b8 and so many bytes of the number. -/
def codG (v : Int) (i : Nat) : List Int := [72, 184] ++ (List.range i).map (fun j => byteOf v j)
theorem codG_succ (v : Int) (i : Nat) : codG v i ++ [byteOf v i] = codG v (i + 1) := by
  unfold codG
  rw [List.range_succ, List.map_append, List.append_assoc]
  rfl
theorem codG_bd (v : Int) (i j : Nat) : 0 ≤ litF (codG v i) j ∧ litF (codG v i) j ≤ 255 := Bs.lit (Bs.append (fun b hb => by simp at hb; omega) (fun b hb => by
  obtain ⟨k, _, rfl⟩ := List.mem_map.mp hb
  unfold byteOf; omega)) j
theorem codG_len (v : Int) (i : Nat) : (codG v i).length = i + 2 := by simp [codG]

/-- What is fetched where an instruction lies of which a byte can't be fetched. -/
theorem fetch_stops {mp : Int → Option Pg} {F : Form} {x : InsV} (hx : Tells F x) {ip : Int} (h0 : 0 ≤ ip) (h1 : ip + 16 ≤ 9223372036854775807) (j : Nat) (hj : j < (encM F x).length) (r : Int × Int × Option (Int × Pg)) (hr : askS mp 4 4 1 (ip + j) 1 = r) (hn : r.1 ≠ 0)
    (ha : ∀ i : Nat, i < j → (askS mp 4 4 1 (ip + i) 1).1 = 0) (hb : ∀ i : Nat, i < j → byteAt mp (ip + i) = ((encM F x).getD i 0 : Nat)) :
    fetchM mp ip 12 [] = ⟨true, askM mp r, ins0, 0, 17, r.1, r.2.1⟩ := by
  have hl := hx.long_bd
  rw [← hx.long] at hl
  have key : ∀ (d k : Nat), k + d = j → ∀ f, d < f → fetchM mp ip f ((encM F x).take k) = ⟨true, askM mp r, ins0, 0, 17, r.1, r.2.1⟩ := by
    intro d
    induction d with
    | zero =>
      intro k hk f hf
      obtain ⟨f, rfl⟩ : ∃ j, f = j + 1 := ⟨f - 1, by omega⟩
      have hlen : ((encM F x).take k).length = k := by rw [List.length_take]; omega
      have hat : atI ip ((encM F x).take k).length = ip + j := by rw [hlen]; unfold atI; omega
      unfold fetchM
      rw [hat, hr, if_neg hn]
    | succ d ih =>
      intro k hk f hf
      obtain ⟨f, rfl⟩ : ∃ j, f = j + 1 := ⟨f - 1, by omega⟩
      have hlen : ((encM F x).take k).length = k := by rw [List.length_take]; omega
      have hat : atI ip ((encM F x).take k).length = ip + k := by rw [hlen]; unfold atI; omega
      have hsn : (encM F x).take k ++ [(byteAt mp (ip + k)).toNat] = (encM F x).take (k + 1) := by
        have hkl : k < (encM F x).length := by omega
        rw [hb k (by omega), Int.toNat_natCast, List.take_add_one, List.getElem?_eq_getElem hkl]
        simp [List.getD, List.getElem?_eq_getElem hkl]
      unfold fetchM
      rw [hat, if_pos (ha k (by omega)), hsn, hx.begins (k + 1) (by omega), if_pos rfl]
      exact ih (k + 1) (by omega) f (by omega)
  exact key j 0 (by omega) 12 (by omega)
theorem protAt_upd (mp : Int → Option Pg) (p : Int) (g : Pg) (x : Int) : protAt (upd mp p (some g)) x = if x = p then some g.prot else protAt mp x := by
  unfold protAt upd
  by_cases c : x = p
  · rw [if_pos c, if_pos c]; rfl
  · rw [if_neg c, if_neg c]
theorem byteAt_upd {mp : Int → Option Pg} {p : Int} {g g' : Pg} (h : mp p = some g) (hd : g'.dat = g.dat) (x : Int) : byteAt (upd mp p (some g')) x = byteAt mp x := by
  unfold byteAt upd
  by_cases c : x - x % 4096 = p
  · rw [if_pos c, c, h]
    simp only [hd]
  · rw [if_neg c]
theorem MpOk.unguard {mp : Int → Option Pg} (h : MpOk mp) {p : Int} {g g' : Pg} (hg : mp p = some g) (hd : g'.dat = g.dat) (hp : 0 ≤ g'.prot ∧ g'.prot ≤ 15) : MpOk (upd mp p (some g')) := by
  have key : ∀ x k, upd mp p (some g') x = some k → (x = p ∧ k = g') ∨ mp x = some k := fun x k hk => by
    unfold upd at hk
    by_cases c : x = p
    · rw [if_pos c] at hk
      injection hk with hk
      exact .inl ⟨c, hk.symm⟩
    · rw [if_neg c] at hk
      exact .inr hk
  refine ⟨fun x k hk => ?_, fun x k hk => ?_, fun x k hk j => ?_⟩
  · rcases key x k hk with ⟨_, rfl⟩ | e
    · exact hp
    · exact h.prot x k e
  · rcases key x k hk with ⟨rfl, _⟩ | e
    · exact h.low x g hg
    · exact h.low x k e
  · rcases key x k hk with ⟨_, rfl⟩ | e
    · rw [hd]; exact h.dat p g hg j
    · exact h.dat x k e j
def insG (V : Nat) : InsV := ⟨5, 0, 0, 0, 0, V, 0⟩
def formG : Form := ⟨5,0,0,4,184,1,0,1⟩
theorem tellsG {V : Nat} (h : V < 18446744073709551616) : Tells formG (insG V) := ⟨by decide, rfl, rfl, rfl, by simp [fitsM, formG, insG, regOkM, hasA, hasB, immOk, dispOk, h], h⟩
theorem encG (V : Nat) : encM formG (insG V) = [72, 184] ++ (List.range 8).map fun i => V / 2 ^ (8 * i) % 256 := by
  simp only [encM, formG, insG, preF, preBytes, preVal, codeBytes, tailVal, tailLen, leBytes]
  simp
theorem codG_enc (V : Nat) : codG V 8 = nL (encM formG (insG V)) := by
  rw [encG]
  unfold codG nL
  rw [List.map_append, List.map_map]
  rfl
/-- What the law stands on: the first step falls by the guard, the second is done. -/
structure GdF (mp1 mp2 : Int → Option Pg) (a : Int) (V : Nat) : Prop where
  f1 : fetchM mp1 a 12 [] = ⟨true, mp2, ins0, 0, 17, 5, 8192⟩
  f2 : fetchM mp2 a 12 [] = ⟨false, mp2, insG V, 10, 0, 0, 0⟩
  ok : MpOk mp2
  pr : ∃ g, mp2 8192 = some g ∧ g.prot = 4
theorem gdF {mp0 : Int → Option Pg} {d1 d2 : Nat → Int} (h1 : mp0 4096 = some ⟨4, d1⟩) (h2 : mp0 8192 = some ⟨12, d2⟩) (V : Nat) (hV : V < 18446744073709551616) (K : Nat) (k1 : 1 ≤ K) (k2 : K ≤ 9) (mp1 : Int → Option Pg) (hmp : putP mp0 (8192 - K) 10 (litF (codG V 8)) = mp1) (ho : MpOk mp1) :
    ∃ mp2, GdF mp1 mp2 (8192 - K) V := by
  have hT := tellsG hV
  have hlen : (encM formG (insG V)).length = 10 := by rw [encG]; simp
  have hpr : ∀ x, protAt mp1 x = protAt mp0 x := fun x => by rw [← hmp]; exact protAt_put _ _ _ _ _
  have p1 : protAt mp1 4096 = some 4 := by rw [hpr]; unfold protAt; rw [h1]; rfl
  have p2 : protAt mp1 8192 = some 12 := by rw [hpr]; unfold protAt; rw [h2]; rfl
  obtain ⟨g, hg, hgp⟩ : ∃ g, mp1 8192 = some g ∧ g.prot = 12 := by
    unfold protAt at p2
    cases hm : mp1 8192 with
    | none => rw [hm] at p2; cases p2
    | some g => rw [hm] at p2; injection p2 with p2; exact ⟨g, rfl, p2⟩
  have pg : ∀ i : Nat, i < 10 → ((8192 - (K : Int) + i) - (8192 - (K : Int) + i) % 4096 = 4096 ∧ i < K) ∨ ((8192 - (K : Int) + i) - (8192 - (K : Int) + i) % 4096 = 8192 ∧ K ≤ i) := fun i hi => by omega
  have hby : ∀ i : Nat, i < 10 → byteAt mp1 (8192 - K + i) = ((encM formG (insG V)).getD i 0 : Nat) := fun i hi => by
    rw [← hmp, byteAt_put (by
      rcases pg i hi with ⟨e, _⟩ | ⟨e, _⟩ <;> rw [e] <;> unfold protAt
      · rw [h1]; rfl
      · rw [h2]; rfl), if_pos (by omega), show (8192 - (K : Int) + i - (8192 - K)).toNat = i by omega, codG_enc, litF_nL]
    rfl
  have hask : askS mp1 4 4 1 (8192 - (K : Int) + K) 1 = (5, 8192, some (8192, ⟨4, g.dat⟩)) := by
    have e : (8192 : Int) - K + K = 8192 := by omega
    rw [e]
    unfold askS
    rw [if_neg (by decide), show (8192 : Int) - 8192 % 4096 = 8192 from by decide, hg]
    simp only
    rw [hgp, if_pos (by decide)]
    rfl
  refine ⟨upd mp1 8192 (some ⟨4, g.dat⟩), ?_, ?_, ho.unguard hg rfl ⟨by show (0 : Int) ≤ 4; decide, by show (4 : Int) ≤ 15; decide⟩, ⟨_, upd_same _ _ _, rfl⟩⟩
  · exact fetch_stops hT (by omega) (by omega) K (by omega) _ hask (by show (5 : Int) ≠ 0; decide) (fun i hi => by
      have := ask_ok (mp := mp1) (need := 4) (kind := 4) (a := 8192 - K + i) (n := 1) (k := 1) (p := 4) (by omega) (by omega) (by rw [show (8192 - (K : Int) + i) - (8192 - (K : Int) + i) % 4096 = 4096 by omega]; exact p1) (by decide) (by decide) (by omega)
      rw [this]) (fun i hi => hby i (by omega))
  · have := fetch_tells (mp := upd mp1 8192 (some ⟨4, g.dat⟩)) hT (ip := 8192 - K) (by omega) (by omega) (fun i hi => by
      rw [hlen] at hi
      have := ask_ok (mp := upd mp1 8192 (some ⟨4, g.dat⟩)) (need := 4) (kind := 4) (a := 8192 - K + i) (n := 1) (k := 1) (p := 4) (by omega) (by omega) (by
        rw [protAt_upd]
        rcases pg i hi with ⟨e, _⟩ | ⟨e, _⟩ <;> rw [e]
        · rw [if_neg (by decide)]; exact p1
        · rw [if_pos rfl]) (by decide) (by decide) (by omega)
      rw [this]) (fun i hi => by rw [hlen] at hi; rw [byteAt_upd (g' := ⟨4, g.dat⟩) hg rfl]; exact hby i hi)
    rw [hlen] at this
    exact this

set_option maxHeartbeats 4000000 in
theorem guards_core (w : World) (k v : Int) (v0 : 0 ≤ v) (v1 : v < 18446744073709551616) :
    Calls Try.prog 8 #[.int .i64 k, .int .u64 v] w fun e w' => e = .returned (.bool true) ∧ Below w.heap.size w w' := by
  have HV := Lib.hid (And.intro v0 v1)
  have HN := Lib.hid (mem0_new w 2 (by omega) (by omega))
  clear v0 v1
  obtain ⟨q, hq⟩ : ∃ q, bits .and .i64 k 255 = q := ⟨_, rfl⟩
  have hq' : 0 ≤ q ∧ q ≤ 255 := by rw [← hq, and_ff]; omega
  obtain ⟨K, hK⟩ : ∃ K : Nat, q % 9 + 1 = K := ⟨(q % 9 + 1).toNat, by omega⟩
  have HKB := Lib.hid (show 1 ≤ K ∧ K ≤ 9 from by omega)
  go_enter Try.func8, Try.ntmps8
  go_wp2_with fail
  clear hK
  refine HN.out.mono ?_
  rintro e w1 ⟨M, rfl, h1⟩
  have H1 := Lib.hid h1
  clear h1 HN hq hq'
  go_wp2_with fail
  refine (mem0_map H1.out 4096 4 1 (by omega) ⟨by decide, by omega, by omega, by omega⟩ (by omega) (by omega) (fun i _ => rfl) (by omega) (by omega)).mono ?_
  rintro e w2 ⟨rfl, h2⟩
  have H2 := Lib.hid h2
  clear h2 H1
  go_wp2_with fail
  refine (mem0_map H2.out 8192 12 1 (by omega) ⟨by decide, by omega, by omega, by omega⟩ (by omega) (by omega) (fun i hi => by (obtain rfl : i = 0 := by omega); kernel_rfl) (by omega) (by omega)).mono ?_
  rintro e w3 ⟨rfl, h3⟩
  have H3 := Lib.hid h3
  clear h3 H2
  go_wp2_with fail
  have HB3 := Lib.hid (BufL.made (bs := [72, 184]) H3.out (.cells #[.int .u8 72, .int .u8 184] 5) _ 2 2 rfl (OwnBL.new w3 _ (Nat.le_refl _) [72, 184] (by decide)))
  obtain ⟨w4, hw4⟩ : ∃ w4, w3.alloc (.cells #[.int .u8 72, .int .u8 184] 5) = w4 := ⟨_, rfl⟩
  obtain ⟨B, hB⟩ : ∃ B, w3.heap.size = B := ⟨_, rfl⟩
  rw [hw4, hB] at HB3 ⊢
  clear hw4 hB H3
  have HMP := Lib.hid (show setP (setP noM 4096 4 1) 8192 12 1 4096 = some ⟨4, fun _ => 0⟩ ∧ setP (setP noM 4096 4 1) 8192 12 1 8192 = some ⟨12, fun _ => 0⟩ from ⟨by kernel_rfl, by kernel_rfl⟩)
  generalize setP (setP noM 4096 4 1) 8192 12 1 = mp0 at *
  go_loopw [6, 7] (fun v6 v7 wr => ∃ i : Nat, i ≤ 8 ∧ v7 = .int .i64 i ∧ BufL w wr M (0 + 1 + 1) 2 mp0 B v6 (codG v i)) (fun _ v7 _ => 8 - (intOf v7).toNat)
  case atStart => exact ⟨0, by omega, rfl, HB3.out⟩
  case round =>
    obtain ⟨i, hi, rfl, hbu⟩ := hrel
    have HBU := Lib.hid hbu
    clear hbu
    by_cases hlt : i < 8
    · have HSRC := Lib.hid (src_new wr [byteOf v i] 1)
      have HLE := Lib.hid (show (codG v i).length + [byteOf v i].length ≤ 140737488355328 from by rw [codG_len]; simp; omega)
      have HBA := Lib.hid (HBU.out.alloc (.cells #[.int .u8 (byteOf v i)] 5))
      go_wp2_with (at_builtin; refine wpList_appBL rfl (.tmp 41) (.tmp 47) 24 rfl B _ (codG v i) rfl HBA.out.own _ rfl [byteOf v i] HSRC.out HLE.out HBA.out.hB.2 ?_; intro A5 cap5 w5 hown5 hg5 hat5; have HBU5 := Lib.hid (HBA.out.app hown5 hg5 hat5); clear hown5 hg5 hat5)
      go_roundw
      case rel => exact ⟨i + 1, by omega, by go_num, by rw [← codG_succ]; exact HBU5.out⟩
      case measure => simp [intOf]; omega
    · obtain rfl : i = 8 := by omega
      obtain ⟨A, cap, rfl, hc1, hc2⟩ := HBU.out.shape
      rw [codG_len] at hc1 ⊢
      obtain ⟨R, h4, hs4⟩ := HBU.out.src
      have H4 := Lib.hid h4
      have HS4 := Lib.hid hs4
      clear h4 hs4 HBU HB3
      have hkb := HKB.out
      go_wp2_with fail
      refine (mem0_poke H4.out (8192 - K) A 10 cap (litF (codG v 8)) (by omega) (by omega) (by omega) (by omega) (by omega) (fun j j0 j1 => ?_) HS4.out (codG_bd v 8)).mono ?_
      · rcases (by omega : (8192 - (K : Int) + j) - (8192 - (K : Int) + j) % 4096 = 4096 ∨ (8192 - (K : Int) + j) - (8192 - (K : Int) + j) % 4096 = 8192) with e | e <;> rw [e]
        · rw [HMP.out.1]; exact fun h => nomatch h
        · rw [HMP.out.2]; exact fun h => nomatch h
      rintro e w5 ⟨rfl, h5, _⟩
      obtain ⟨V, hV⟩ : ∃ V : Nat, v = V := ⟨v.toNat, by have := HV.out; omega⟩
      have hvb := HV.out
      subst hV
      obtain ⟨mp1, hmp1⟩ : ∃ mp1, putP mp0 (8192 - K) 10 (litF (codG V 8)) = mp1 := ⟨_, rfl⟩
      rw [hmp1] at h5
      obtain ⟨mp2, hg⟩ := gdF HMP.out.1 HMP.out.2 V (by omega) K hkb.1 hkb.2 mp1 hmp1 h5.ok
      have H5 := Lib.hid h5
      have HG := Lib.hid hg
      clear h5 hg hmp1 H4 HS4 HMP
      go_wp2_with fail
      refine (mem0_cpu H5.out).mono ?_
      rintro e w6 ⟨C, _, _, rfl, h6⟩
      have H6 := Lib.hid h6
      clear h6 H5
      go_wp2_with fail
      refine (box_jump H6.out (8192 - K) (by omega) (by omega)).mono ?_
      rintro e w7 ⟨rfl, h7, _⟩
      have H7 := Lib.hid h7
      clear h7 H6
      go_wp2_with fail
      refine (box_flt H7.out HG.out.f1 HG.out.ok).mono ?_
      rintro e w8 ⟨rfl, h8, _⟩
      have H8 := Lib.hid h8
      clear h8 H7
      go_wp2_with fail
      refine (getFault_any w8 C M _ _ _ H8.out.cpu).mono ?_
      rintro e w9 ⟨rfl, hb9⟩
      have H9 := Lib.hid (H8.out.below hb9)
      clear hb9 H8
      go_wp2_with fail
      refine (box_ip H9.out (8192 - K) rfl).mono ?_
      rintro e w10 ⟨rfl, rfl⟩
      go_wp2_with fail
      refine (box_reg H9.out 0 (by omega) 0 rfl).mono ?_
      rintro e w10 ⟨rfl, rfl⟩
      go_wp2_with fail
      obtain ⟨W, hW⟩ : ∃ W, w10.alloc (.cells #[.int .i64 5, .int .u64 8192] 57) = W := ⟨_, rfl⟩
      obtain ⟨D, hD⟩ : ∃ D, w10.heap.size = D := ⟨_, rfl⟩
      have hb10 := H9.out.alloc (.cells #[.int .i64 5, .int .u64 8192] 57)
      have hz10 := heap_alloc_new w10 (.cells #[.int .i64 5, .int .u64 8192] 57)
      have hl10 : w10.heap.size < (w10.alloc (.cells #[.int .i64 5, .int .u64 8192] 57)).heap.size := by simp
      have hcd := H9.out.lt C H9.out.rC
      rw [hW, hD] at hb10
      rw [hW, hD] at hz10
      rw [hW, hD] at hl10
      rw [hD] at hcd
      have H10 := Lib.hid hb10
      have HZ10 := Lib.hid hz10
      have HL10 := Lib.hid (And.intro hl10 hcd)
      rw [hW, hD]
      clear hb10 hz10 hl10 hcd hW hD H9
      obtain ⟨g, hg1, hg2⟩ := HG.out.pr
      refine (prot_box H10.out 8192 g (by omega) (by omega) hg1).mono ?_
      rintro e w11 ⟨rfl, h11, hw11⟩
      have H11 := Lib.hid h11
      have HZ11 := Lib.hid ((hw11.block D HL10.out.1).trans HZ10.out)
      rw [hg2]
      clear h11 H10 HZ10 hg1 hg2 hw11
      go_wp2_with fail
      refine (box_do H11.out al0 (s' := (nextS (st0.setIp (8192 - K)) 10).setR 0 V) HG.out.f2 rfl (by show (5 : Nat) ≠ 23; decide) (aluD0 (by show (5 : Nat) ≠ 7 ∧ (5 : Nat) ≠ 14 ∧ (5 : Nat) ≠ 15 ∧ (5 : Nat) ≠ 16; decide)) HG.out.ok ((H11.out.sok.next 10).setR (by omega) (by omega))).mono ?_
      rintro e w12 ⟨rfl, h12, hk12⟩
      have H12 := Lib.hid h12
      have HZ12 := Lib.hid ((hk12.block D ⟨.inr ⟨Nat.le_refl _, HL10.out.1⟩, by have := HL10.out.2; omega⟩).trans HZ11.out)
      have c0 : w12.cell? ⟨D, 0, none⟩ = some (.int .i64 5) := by rw [cell_of_row' HZ12.out]; rfl
      have c1 : w12.cell? ⟨D, 1, none⟩ = some (.int .u64 8192) := by rw [cell_of_row' HZ12.out]; rfl
      clear h12 hk12 H11 HZ11
      go_wp2_with fail
      refine (box_reg H12.out 0 (by omega) V rfl).mono ?_
      rintro e w13 ⟨rfl, rfl⟩
      go_wp2_with fail
      refine (box_ip H12.out (8192 - K + 10) (by show (8192 - (K : Int) + (10 : Nat)) % 18446744073709551616 = _; omega)).mono ?_
      rintro e w13 ⟨rfl, rfl⟩
      go_wp2_with fail
      refine (awake16_any w13).mono ?_
      rintro e w14 ⟨rfl, hb14⟩
      have H14 := Lib.hid (H12.out.ends.trans (hb14.mono H12.out.ends.size))
      go_wp2
      go_ret
      exact ⟨rfl, H14.out⟩
end Go.Proofs.Ythbgmlmcjnlopaa
