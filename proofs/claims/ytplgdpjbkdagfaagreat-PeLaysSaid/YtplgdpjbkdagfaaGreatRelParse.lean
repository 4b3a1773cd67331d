import Derived.Test.YtplgdpjbkdagfaaGreatZAwake1
import Derived.Test.YtplgdpjbkdagfaaGreatZHdrD
import Derived.Test.YtplgdpjbkdagfaaGreatCopy
import Derived.Deep.DeepFit
namespace Go.Proofs.YtplgdpjbkdagfaaGreat
set_option maxRecDepth 100000
open Go.ChangeShapes Go.WideShapes Go.ChangeAt Go.RowKit
set_option linter.unusedVariables false
set_option linter.unusedSimpArgs false
abbrev Site := Int × Int
def relC (x : Site) : List Value := [.int .i64 x.1, .int .i64 x.2]
theorem relC_len (x : Site) : (relC x).length = 2 := rfl
theorem relC_one (x : Site) : ∀ u ∈ relC x, u.oneCell' = true := by
  intro u hu
  simp [relC] at hu
  rcases hu with rfl | rfl <;> rfl
def siteOk (n : Nat) (l : List Site) (x : Site) : Prop := relLen x.1 ≠ 0 ∧ x.2 + relLen x.1 ≤ n ∧ l.length < 512 ∧ ∀ y ∈ l, y.2 + relLen y.1 ≤ x.2 ∨ x.2 + relLen x.1 ≤ y.2
instance (n : Nat) (l : List Site) (x : Site) : Decidable (siteOk n l x) := by unfold siteOk; infer_instance
def siteOf (p v : Int) : Site := (v / 4096, p + v % 4096)
def rowS (n : Nat) (f : Nat → Int) (p : Int) : Nat → Nat → List Site → Option (List Site)
  | 0, _, l => some l
  | k + 1, o, l => if rdF f o 2 / 4096 = 0 then rowS n f p k (o + 2) l else if siteOk n l (siteOf p (rdF f o 2)) then rowS n f p k (o + 2) (l ++ [siteOf p (rdF f o 2)]) else none
def blocksS (n : Nat) (f : Nat → Int) (e : Nat) : Nat → Nat → List Site → Option (List Site)
  | 0, _, _ => none
  | F + 1, o, l =>
    if e ≤ o then some l else
    match rheadS f o e with
    | none => none
    | some (p, z) =>
      match rowS n f p ((z.toNat - 8) / 2) (o + 8) l with
      | none => none
      | some l' => blocksS n f e F (o + z.toNat) l'
def parseS (n : Nat) (f : Nat → Int) (r s : Int) : Option (List Site) :=
  if r = 0 then some [] else if ¬ (0 ≤ r ∧ 0 ≤ s ∧ r ≤ n - s) then none else blocksS n f (r.toNat + s.toNat) (s.toNat + 1) r.toNat []
structure Marks (tk : Nat → Bool) (l : List Site) : Prop where
  mark : ∀ j : Nat, tk j = true ↔ ∃ y ∈ l, y.2 ≤ j ∧ (j : Int) < y.2 + relLen y.1
  good : ∀ y ∈ l, relLen y.1 ≠ 0 ∧ 0 ≤ y.2
  len : l.length ≤ 512
theorem Marks.site {tk : Nat → Bool} {l : List Site} (h : Marks tk l) (n : Nat) (k r : Int) (h0 : 0 ≤ r) : siteOk n l (k, r) ↔ takeP n tk k r ∧ l.length < 512 := by
  have hL := relLen_bd k
  constructor
  · rintro ⟨h1, h2, h3, h4⟩
    refine ⟨⟨h1, h2, fun j hj1 hj2 => ?_⟩, h3⟩
    cases htk : tk j with
    | false => rfl
    | true =>
      obtain ⟨y, hy, hy1, hy2⟩ := (h.mark j).1 htk
      have := h4 y hy
      simp only at this
      omega
  · rintro ⟨⟨h1, h2, h3⟩, h4⟩
    refine ⟨h1, h2, h4, fun y hy => ?_⟩
    have hy1 := h.good y hy
    have hyL := relLen_bd y.1
    simp only
    by_cases c : y.2 + relLen y.1 ≤ r ∨ r + relLen k ≤ y.2
    · exact c
    · exfalso
      have h5 := h3 (max r y.2).toNat (by omega) (by omega)
      have h6 := (h.mark (max r y.2).toNat).2 ⟨y, hy, by omega, by omega⟩
      rw [h5] at h6
      cases h6
theorem Marks.add {tk : Nat → Bool} {l : List Site} (h : Marks tk l) (k r : Int) (h0 : 0 ≤ r) (hk : relLen k ≠ 0) (hl : l.length < 512) : Marks (setT tk r (r + relLen k)) (l ++ [(k, r)]) := by
  refine ⟨fun j => ?_, fun y hy => ?_, by simp; omega⟩
  · have h1 := h.mark j
    unfold setT
    constructor
    · intro h2
      rw [Bool.or_eq_true] at h2
      rcases h2 with h2 | h2
      · obtain ⟨y, hy, h3⟩ := h1.1 h2
        exact ⟨y, by simp [hy], h3⟩
      · exact ⟨(k, r), by simp, by simpa using h2⟩
    · rintro ⟨y, hy, h3, h4⟩
      rw [Bool.or_eq_true]
      rw [List.mem_append, List.mem_singleton] at hy
      rcases hy with hy | rfl
      · exact .inl (h1.2 ⟨y, hy, h3, h4⟩)
      · exact .inr (by simpa using ⟨h3, h4⟩)
  · rw [List.mem_append, List.mem_singleton] at hy
    rcases hy with hy | rfl
    · exact h.good y hy
    · exact ⟨hk, h0⟩
theorem Marks.nil : Marks (fun _ => false) [] := ⟨fun j => by simp, fun y hy => by simp at hy, by simp⟩
theorem and_4095 (n : Int) : bits .and .i64 n 4095 = n % 4096 := i64_mask n 12 (by omega)
def ParseR (w w' : World) (r : Option (List Site)) (e : Ending) : Prop :=
  (match r with
   | none => e = .returned (.tuple #[.slice none 0 0, .int .i64 9])
   | some l => ∃ A cap, e = .returned (.tuple #[.slice A l.length cap, .int .i64 0]) ∧ OwnT relC 2 w' w.heap.size 82 (.slice A l.length cap) l) ∧ Below w.heap.size w w'
structure PState (w wr : World) (n gt : Nat) (A : Option Addr) (cap : Nat) (l : List Site) (tk : Nat → Bool) : Prop where
  own : OwnT relC 2 wr w.heap.size 82 (.slice A l.length cap) l
  row : Own wr gt n (fun i => .bool (tk i))
  marks : Marks tk l
  apart : ∀ k, (Value.slice A l.length cap).ownBlock = some k → k ≠ gt
  bel : Below w.heap.size w wr
theorem infoRel : (Tryz.prog.info? 82).map (fun i => (i.zero, i.size, i.bytes)) = some (some (.agg #[.int .i64 0, .int .i64 0]), 2, 16) := by kernel_rfl
set_option maxRecDepth 100000 in
set_option maxHeartbeats 600000 in
theorem parse_any (A : Option Addr) (n cap : Nat) (f : Nat → Int) (r s : Int) (w : World) (hl : n ≤ cap) (hm : n ≤ 140737488355328) (hb : Bytes255 f) (hs : SlB w A n f)
    (r0 : -9223372036854775808 ≤ r) (r1 : r ≤ 9223372036854775807) (s0 : -9223372036854775808 ≤ s) (s1 : s ≤ 9223372036854775807) :
    Calls Tryz.prog 81 #[.slice A n cap, .agg #[.int .i64 r, .int .i64 s]] w fun e w' => ParseR w w' (parseS n f r s) e := by
  have HB := Lib.hid hb
  have HS := Lib.hid hs
  clear hb hs
  obtain ⟨res, hres⟩ : ∃ res, parseS n f r s = res := ⟨_, rfl⟩
  rw [hres]
  have HRS := Lib.hid hres
  clear hres
  by_cases c0 : r = 0
  · subst c0
    have h := HRS.out
    unfold parseS at h
    rw [if_pos rfl] at h
    subst h
    go_enter Tryz.func81, Tryz.ntmps81
    go_wp2_with fail
    go_ret2
    exact ⟨⟨none, 0, rfl, OwnT.nil _ _ _⟩, by go_grown⟩
  · have e0 : (r == 0) = false := by simpa using c0
    by_cases c1 : 0 ≤ r ∧ 0 ≤ s ∧ r ≤ n - s
    · obtain ⟨c1, c2, c3⟩ := c1
      obtain ⟨R, rfl⟩ : ∃ R : Nat, r = R := ⟨r.toNat, by omega⟩
      obtain ⟨Z, rfl⟩ : ∃ Z : Nat, s = Z := ⟨s.toNat, by omega⟩
      have hin := rowIn_any A n cap R Z true (w.alloc (.cells #[.int .i64 R, .int .i64 Z] 37)) (by omega) s0 s1 ⟨fun _ => ⟨c1, c2, c3⟩, fun _ => rfl⟩
      have HIN := Lib.hid hin
      have hsp : blocksS n f (R + Z) (Z + 1) R [] = res := by
        have h := HRS.out
        unfold parseS at h
        rw [if_neg c0, if_neg (fun h => h ⟨c1, c2, c3⟩)] at h
        simpa using h
      have HSP := Lib.hid hsp
      clear hin HRS hsp
      go_enter Tryz.func81, Tryz.ntmps81
      go_wp2_with fail
      refine HIN.out.mono ?_
      rintro e w' ⟨rfl, rfl⟩
      go_wp2_with (at_make; refine wpList_make_bytes _ rfl (.tmp 29) (.tmp 29) 197 rfl 4 (.bool false) 1 (by kernel_rfl) (by kernel_rfl) rfl .i64 .i64 n (by simp [Act.eval, Act.put]) (by simp [Act.eval, Act.put]) (by omega) (by omega) ?_; intro w1 hw1 ho1)
      have hsz0 : (w.alloc (.cells #[.int .i64 R, .int .i64 Z] 37)).heap.size = w.heap.size + 1 := by simp
      have hsz1 : ((w.alloc (.cells #[.int .i64 R, .int .i64 Z] 37)).alloc (.cells #[] 82)).heap.size = w.heap.size + 2 := by simp
      have hT := ((own_two w (.int .i64 R) (.int .i64 Z) 37).alloc (.cells #[] 82)).below hw1 (by rw [hsz1]; omega)
      have hbel : Below w.heap.size w w1 := (((Below.refl w.heap.size w).alloc (Nat.le_refl _) _).alloc (by simp) _).trans (hw1.mono (by rw [hsz1]; omega))
      have hown := (OwnT.made (C := relC) (sz := 2) (w.alloc (.cells #[.int .i64 R, .int .i64 Z] 37)) w.heap.size (by simp) 82).below hw1
      have t0 := hT.cell (i := 0) (by omega)
      have t1 := hT.cell (i := 1) (by omega)
      simp only [if_pos, if_neg, Nat.one_ne_zero] at t0 t1
      rw [hsz0] at hown
      rw [hsz1] at ho1
      obtain ⟨gt, hgt⟩ : ∃ gt, gt = w.heap.size + 1 + 1 := ⟨_, rfl⟩
      have HGT := Lib.hid (show w.heap.size < gt by omega)
      rw [show w.heap.size + 2 = gt from by omega] at ho1
      have hst : PState w w1 n gt (some ⟨w.heap.size + 1, 0, none⟩) 0 [] (fun _ => false) := ⟨hown, ho1, Marks.nil, fun k hk => by (injection hk with hk; subst hk; show w.heap.size + 1 ≠ gt; omega), hbel⟩
      have HST := Lib.hid hst
      clear hw1 ho1 hT hbel hown hsz0 hsz1 hst
      go_wp2_with fail
      go_quiet (fail)
      go_wp2_with fail
      rw [← hgt]
      have HGE := Lib.hid hgt
      clear t0 t1 hgt e0 c0 c1 c2 r0 r1 s0 s1
      obtain ⟨E, hE⟩ : ∃ E, E = R + Z := ⟨_, rfl⟩
      have hEn : E ≤ n := by omega
      rw [show (R : Int) + Z = E by omega]
      rw [← hE] at HSP
      have hRE : R ≤ E := by omega
      have hZE : E - R ≤ Z := by omega
      clear hE
      go_loopw [6, 8] (fun v6 v8 wr => ∃ (o F : Nat) (l : List Site) (tk : Nat → Bool) (A' : Option Addr) (cap' : Nat), o ≤ E ∧ E < o + F ∧ v8 = .int .i64 o ∧ v6 = .slice A' l.length cap' ∧ PState w wr n gt A' cap' l tk ∧ blocksS n f E F o l = res) (fun _ v8 _ => E - (intOf v8).toNat)
      case atStart => exact ⟨R, Z + 1, [], _, _, _, by omega, by omega, rfl, rfl, ⟨HST.out.own, HST.out.row, HST.out.marks, HST.out.apart, belD HST.out.bel nq⟩, HSP.out⟩
      case round =>
        obtain ⟨o, F, l, tk, A', cap', ho, hF, rfl, rfl, hst, hsp⟩ := hrel
        have HST := Lib.hid hst
        have HSP := Lib.hid hsp
        clear hst hsp
        by_cases hlt : o < E
        · obtain ⟨b, off, rfl, hbl, hrow⟩ : ∃ b off, A = some ⟨b, off, none⟩ ∧ b < w.heap.size ∧ Row w b off n f := by
            rcases HS.out with h | h
            · omega
            · exact h
          have HROW := Lib.hid (show ∀ W, Below w.heap.size w W → Row W b off n f from fun W hW => hrow.below hW hbl)
          obtain ⟨F, rfl⟩ : ∃ F', F = F' + 1 := ⟨F - 1, by omega⟩
          have hh := head_any b off n cap f o E wr (by omega) (by omega) hEn HB.out (HROW.out wr HST.out.bel)
          have hsp := HSP.out
          unfold blocksS at hsp
          rw [if_neg (by omega)] at hsp
          clear hrow
          cases hhd : rheadS f o E with
          | none =>
            rw [hhd] at hh hsp
            simp only [Option.getD_none, Option.isSome_none] at hh hsp
            subst hsp
            have HH := Lib.hid hh
            clear hh hhd
            go_wp2_with fail
            go_fit HH.out
            rintro e w' ⟨rfl, rfl⟩
            go_wp2_with fail
            go_ret2
            exact ⟨rfl, HST.out.bel⟩
          | some pz =>
            obtain ⟨p, z⟩ := pz
            rw [hhd] at hh hsp
            simp only [Option.getD_some, Option.isSome_some] at hh hsp
            obtain ⟨q1, q2, q3, q4, q5, q6⟩ := headS_some hhd
            have qp := rdF_bd f HB.out 4 o
            rw [← q2] at qp
            obtain ⟨qp0, qp1⟩ := qp
            have qp2 : p < 4294967296 := by omega
            obtain ⟨K, rfl⟩ : ∃ K : Nat, z = (8 + 2 * K : Nat) := ⟨((z - 8) / 2).toNat, by omega⟩
            rw [show (((8 + 2 * K : Nat) : Int).toNat - 8) / 2 = K by omega, show ((8 + 2 * K : Nat) : Int).toNat = 8 + 2 * K by omega] at hsp
            obtain ⟨rr, hrr⟩ : ∃ rr, rowS n f p K (o + 8) l = rr := ⟨_, rfl⟩
            rw [hrr] at hsp
            have HH := Lib.hid hh
            have HRR := Lib.hid hrr
            have HSQ := Lib.hid hsp
            have HQ2 := Lib.hid q2
            have hK : o + 8 + 2 * K ≤ E := by omega
            clear hh hhd q2 q3 q4 q5 q6 hrr hsp qp1 q1 HSP
            go_wp2_with fail
            go_fit HH.out
            rintro e w' ⟨rfl, rfl⟩
            go_wp2_with fail
            try simp only [Int.natCast_add, Int.natCast_mul, Int.cast_ofNat_Int]
            go_loopw [6, 13] (fun v6 v13 wr => ∃ (q : Nat) (l : List Site) (tk : Nat → Bool) (A' : Option Addr) (cap' : Nat), q ≤ K ∧ v13 = .int .i64 (8 + 2 * (q : Int)) ∧ v6 = .slice A' l.length cap' ∧ PState w wr n gt A' cap' l tk ∧ rowS n f p (K - q) (o + 8 + 2 * q) l = rr) (fun _ v13 _ => 8 + 2 * K - (intOf v13).toNat)
            case atStart => exact ⟨0, l, tk, A', cap', by omega, by simp, rfl, HST.out, HRR.out⟩
            case round =>
              clear HST HRR HH
              obtain ⟨q, l, tk, A', cap', hq, rfl, rfl, hst, hrs⟩ := hrel
              have HST := Lib.hid hst
              have HRS := Lib.hid hrs
              clear hst hrs
              by_cases hlt2 : q < K
              · have hu := u16_yes b off n cap f (o + (8 + 2 * q)) wr (by omega) (by omega) HB.out (HROW.out wr HST.out.bel)
                have hrs := HRS.out
                obtain ⟨D, hD⟩ : ∃ D, K - q = D + 1 := ⟨K - q - 1, by omega⟩
                rw [hD] at hrs
                unfold rowS siteOf at hrs
                have hv := rdF_bd f HB.out 2 (o + (8 + 2 * q))
                rw [show o + 8 + 2 * q = o + (8 + 2 * q) by omega] at hrs
                obtain ⟨v, hvv⟩ : ∃ v, rdF f (o + (8 + 2 * q)) 2 = v := ⟨_, rfl⟩
                rw [hvv] at hu hrs hv
                obtain ⟨v0, v1⟩ := hv
                have v2 : v < 65536 := by omega
                rw [show ((o + (8 + 2 * q) : Nat) : Int) = (o : Int) + (8 + 2 * (q : Int)) by omega] at hu
                have HU := Lib.hid hu
                have HRS2 := Lib.hid hrs
                have hmm := and_4095 v
                have hD2 : K - (q + 1) = D := by omega
                have HD2 := Lib.hid hD2
                clear hu hrs hvv v1 hD hD2 HRS
                have hw64 : 0 ≤ v / 4096 := by omega
                by_cases d0 : v / 4096 = 0
                · have hrs := HRS2.out
                  rw [if_pos d0] at hrs
                  have HRS3 := Lib.hid hrs
                  have e0 : (v / 4096 == 0) = true := by simp [d0]
                  clear hrs d0 HRS2
                  go_wp2_with fail
                  go_fit HU.out
                  rintro e w' ⟨rfl, rfl⟩
                  go_wp2_with fail
                  go_roundw
                  case rel => exact ⟨q + 1, l, tk, A', cap', by omega, by go_num, rfl, HST.out, by rw [HD2.out, show o + 8 + 2 * (q + 1) = o + (8 + 2 * q) + 2 by omega]; exact HRS3.out⟩
                  case measure => simp [intOf]; omega
                · have hrs := HRS2.out
                  rw [if_neg d0] at hrs
                  have HRS3 := Lib.hid hrs
                  have e0 : (v / 4096 == 0) = false := by simpa using d0
                  have D0 := Lib.hid d0
                  have hgl := HST.out.row.1
                  have hb0 : Below wr.heap.size wr (wr.alloc (.cells #[.int .i64 (v / 4096), .int .i64 (p + v % 4096)] 82)) := (Below.refl _ _).alloc (Nat.le_refl _) _
                  have hrow := HST.out.row.below hb0 hgl
                  obtain ⟨bb, hbb⟩ : ∃ bb : Bool, bb = true ↔ takeP n tk (v / 4096) (p + v % 4096) := ⟨@decide (takeP n tk (v / 4096) (p + v % 4096)) (Classical.propDecidable _), by simp⟩
                  have ht := take_any (wr.alloc (.cells #[.int .i64 (v / 4096), .int .i64 (p + v % 4096)] 82)) gt n n tk (v / 4096) (p + v % 4096) bb (by omega) (by omega) hm hrow hbb
                  have HT := Lib.hid ht
                  have hsite := HST.out.marks.site n (v / 4096) (p + v % 4096) (by omega)
                  have HSI := Lib.hid hsite
                  have HBB := Lib.hid hbb
                  have HB0 := Lib.hid hb0
                  have HO0 := Lib.hid (own_two wr (.int .i64 (v / 4096)) (.int .i64 (p + v % 4096)) 82)
                  have hgne : gt ≠ wr.heap.size := by omega
                  have HGN := Lib.hid hgne
                  have HGL := Lib.hid hgl
                  clear hrs HRS2 d0 hrow hbb ht hsite hb0 hgne hgl
                  go_wp2_with fail
                  go_fit HU.out
                  rintro e w' ⟨rfl, rfl⟩
                  go_wp2_with fail
                  go_fit HT.out
                  rintro e w2 ⟨rfl, htt, hg2⟩
                  have HO2 := Lib.hid (HO0.out.grown hg2 (fun h => HGN.out (by injection h with h; exact h.symm)))
                  have o0 := HO2.out.cell (i := 0) (by omega)
                  have o1 := HO2.out.cell (i := 1) (by omega)
                  simp only [if_pos, if_neg, Nat.one_ne_zero] at o0 o1
                  have HTT := Lib.hid htt
                  have HG2 := Lib.hid hg2
                  have HBE2 := Lib.hid ((HST.out.bel.trans (HB0.out.mono HST.out.bel.size)).trans ⟨hg2.os, hg2.tape, hg2.output, hg2.size, fun k hk => hg2.block k (by have := HST.out.bel.size; simp; omega) (fun h => by injection h with h; have := HGT.out; omega)⟩)
                  clear htt hg2 HT HU
                  cases bb with
                  | false =>
                    have hn : rr = none := by
                      have h := HRS3.out
                      rw [if_neg (fun hs => by have := HBB.out.2 (HSI.out.1 hs).1; cases this)] at h
                      exact h.symm
                    have hsp := HSQ.out
                    rw [hn] at hsp
                    simp only at hsp
                    subst hsp
                    go_wp2_with fail
                    go_ret2
                    exact ⟨rfl, HBE2.out⟩
                  | true =>
                    have hl512 := HST.out.marks.len
                    by_cases hl : l.length = 512
                    · have hn : rr = none := by
                        have h := HRS3.out
                        rw [if_neg (fun hs => by have := (HSI.out.1 hs).2; omega)] at h
                        exact h.symm
                      have hsp := HSQ.out
                      rw [hn] at hsp
                      simp only at hsp
                      subst hsp
                      have el : ((l.length : Int) == 512) = true := by simp; omega
                      clear hn hl512
                      go_wp2_with fail
                      go_ret2
                      exact ⟨rfl, HBE2.out⟩
                    · have el : ((l.length : Int) == 512) = false := by simp; omega
                      have hrs := HRS3.out
                      have HTK := Lib.hid (HBB.out.1 rfl)
                      rw [if_pos (HSI.out.2 ⟨HBB.out.1 rfl, by omega⟩)] at hrs
                      have HRS4 := Lib.hid hrs
                      have hown2 := (HST.out.own.below HB0.out).grown HG2.out (fun k hk h => by injection h with h; exact HST.out.apart k hk h.symm)
                      have HOW2 := Lib.hid (hown2.alloc (.cells #[.int .i64 (v / 4096), .int .i64 (p + v % 4096)] 82))
                      have HO3 := Lib.hid (own_two w2 (.int .i64 (v / 4096)) (.int .i64 (p + v % 4096)) 82)
                      have hbase := Lib.hid HBE2.out.size
                      have hll : l.length < 512 := by omega
                      clear hrs hown2 hl hl512
                      go_wp2_with (at_builtin; refine wpList_appT rfl (.tmp 83) (.tmp 85) 29 rfl w.heap.size 82 (.agg #[.int .i64 0, .int .i64 0]) 16 (by kernel_rfl) infoRel rfl (by omega) relC_len relC_one _ l rfl HOW2.out w2.heap.size 1 rfl (v / 4096, p + v % 4096) ?ca (by unfold maxLen; omega) (by omega) (by have := hbase.out; simp; omega) ?_; rotate_left; intro g' cap2 w3 hown3 hg3 hat3)
                      case ca =>
                        intro j u hu
                        have h := HO3.out.cell (i := j) (by have := (List.getElem?_eq_some_iff.1 hu).1; simpa [relC] using this)
                        rw [h]
                        rcases j with _ | _ | j
                        · simpa [relC] using hu
                        · simpa [relC] using hu
                        · simp [relC] at hu
                      have hst : PState w w3 n gt (some ⟨g', 0, none⟩) cap2 (l ++ [(v / 4096, p + v % 4096)]) (setT tk (p + v % 4096) (p + v % 4096 + relLen (v / 4096))) := by
                        obtain ⟨tk2, h1, h2⟩ := HTT.out
                        obtain rfl := h2 rfl
                        have hsz : (w2.alloc (.cells #[.int .i64 (v / 4096), .int .i64 (p + v % 4096)] 82)).heap.size = w2.heap.size + 1 := by simp
                        have hgw : gt < w2.heap.size := h1.1
                        refine ⟨by rw [List.length_append]; exact hown3, (h1.alloc (.cells #[.int .i64 (v / 4096), .int .i64 (p + v % 4096)] 82)).grown hg3 (fun h => HST.out.apart gt h.symm rfl), HST.out.marks.add _ _ (by omega) HTK.out.1 hll, fun k hk => ?_, ?_⟩
                        · injection hk with hk
                          subst hk
                          rcases hat3 with h | h
                          · exact HST.out.apart _ h
                          · intro h2
                            have h2 : g' = gt := h2
                            omega
                        · exact HOW2.out.grew ((HBE2.out.alloc (by have := HBE2.out.size; omega) (.cells #[.int .i64 (v / 4096), .int .i64 (p + v % 4096)] 82))) (Nat.le_refl _) (by have := HBE2.out.size; omega) hg3
                      have HST3 := Lib.hid hst
                      clear hst hown3 hg3 hat3
                      go_roundw
                      case rel => exact ⟨q + 1, l ++ [(v / 4096, p + v % 4096)], _, _, cap2, by omega, by go_num, by simp, HST3.out, by rw [HD2.out, show o + 8 + 2 * (q + 1) = o + (8 + 2 * q) + 2 by omega]; exact HRS4.out⟩
                      case measure => simp [intOf]; omega
              · obtain rfl : q = K := by omega
                have hrs := HRS.out
                rw [Nat.sub_self] at hrs
                unfold rowS at hrs
                subst hrs
                have hsp := HSQ.out
                simp only at hsp
                have HSR := Lib.hid hsp
                clear hsp HSQ hlt2 hq
                go_wp2_with fail
                go_roundw
                case rel => exact ⟨o + (8 + 2 * q), F, l, tk, A', cap', by omega, by omega, by go_num, rfl, HST.out, HSR.out⟩
                case measure => simp [intOf]; omega
        · obtain rfl : o = E := by omega
          have hsp := HSP.out
          have hF2 : ∃ F', F = F' + 1 := ⟨F - 1, by omega⟩
          obtain ⟨F, rfl⟩ := hF2
          unfold blocksS at hsp
          rw [if_pos (by omega)] at hsp
          subst hsp
          clear hlt ho
          go_wp2_with fail
          go_ret2
          exact ⟨⟨_, _, rfl, HST.out.own⟩, HST.out.bel⟩
    · have h := HRS.out
      unfold parseS at h
      rw [if_neg c0, if_pos c1] at h
      subst h
      have hin := rowIn_any A n cap r s false (w.alloc (.cells #[.int .i64 r, .int .i64 s] 37)) (by omega) s0 s1 ⟨(fun h => by cases h), fun h => absurd h c1⟩
      have HIN := Lib.hid hin
      clear hin c1
      go_enter Tryz.func81, Tryz.ntmps81
      go_wp2_with fail
      refine HIN.out.mono ?_
      rintro e w' ⟨rfl, rfl⟩
      go_wp2_with fail
      go_ret2
      exact ⟨rfl, by go_grown⟩
end Go.Proofs.YtplgdpjbkdagfaaGreat
