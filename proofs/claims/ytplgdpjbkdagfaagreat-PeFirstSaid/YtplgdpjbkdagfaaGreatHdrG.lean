/- package hdr: sectsOk. -/
import Derived.Test.YtplgdpjbkdagfaaGreatHdrF
namespace Go.Proofs.YtplgdpjbkdagfaaGreat
set_option maxRecDepth 100000
open Go.ChangeShapes Go.WideShapes Go.ChangeAt Go.RowKit
set_option linter.unusedVariables false
set_option linter.unusedSimpArgs false

/-- Whether a section may stand at next. -/
def stepP (size len next : Int) (s : SectN) : Prop :=
  s.rva = next ∧ s.vsize ≠ 0 ∧ s.vsize ≤ size ∧ s.raw % 512 = 0 ∧ s.raw ≤ roundS s.vsize 4096 ∧ ¬ (0 < s.raw ∧ len < s.spot + s.raw)

/-- Whether sections stand one behind the other from next on, up to size. -/
def chainP (size len : Int) : Int → List SectN → Prop
  | next, [] => next = size
  | next, s :: l => stepP size len next s ∧ chainP size len (next + roundS s.vsize 4096) l

structure SectBd (s : SectN) : Prop where
  v0 : 0 ≤ s.vsize
  v1 : s.vsize < 4294967296
  r0 : 0 ≤ s.rva
  r1 : s.rva < 4294967296
  w0 : 0 ≤ s.raw
  w1 : s.raw < 4294967296
  s0 : 0 ≤ s.spot
  s1 : s.spot < 4294967296
  c0 : 0 ≤ s.chars
  c1 : s.chars < 4294967296

theorem sectS_bd {f : Nat → Int} (h : Bytes255 f) (o : Nat) : SectBd (sectS f o) :=
  ⟨(rdF_bd f h 4 _).1, (rdF_bd f h 4 _).2, (rdF_bd f h 4 _).1, (rdF_bd f h 4 _).2, (rdF_bd f h 4 _).1, (rdF_bd f h 4 _).2, (rdF_bd f h 4 _).1, (rdF_bd f h 4 _).2, (rdF_bd f h 4 _).1, (rdF_bd f h 4 _).2⟩

theorem roundS_bd4 (n : Int) (h : n < 4294967296) : 0 ≤ roundS n 4096 ∧ roundS n 4096 ≤ 4294967296 := by
  unfold roundS
  split
  · omega
  · rw [show max (4096 : Int) 1 = 4096 by omega, show min n 1099511627776 = n by omega]
    omega

theorem SlT.at6 {w : World} {g : Nat} {l : List SectN} (h : SlT SectN.cells 6 w (some ⟨g, 0, none⟩) l) (i : Nat) (hi : i < l.length) :
    w.cell? ⟨g, i * 6, none⟩ = some (.string l[i].name) ∧ w.cell? ⟨g, i * 6 + 1, none⟩ = some (.int .i64 l[i].vsize) ∧ w.cell? ⟨g, i * 6 + 2, none⟩ = some (.int .i64 l[i].rva) ∧
    w.cell? ⟨g, i * 6 + 3, none⟩ = some (.int .i64 l[i].raw) ∧ w.cell? ⟨g, i * 6 + 4, none⟩ = some (.int .i64 l[i].spot) ∧ w.cell? ⟨g, i * 6 + 5, none⟩ = some (.int .i64 l[i].chars) := by
  rcases h with rfl | ⟨b, off, hb, hlt, hc⟩
  · simp at hi
  · injection hb with hb
    injection hb with h1 h2
    subst h1 h2
    have k := fun j v hv => hc i hi j v hv
    simp only [Nat.zero_add] at k
    exact ⟨k 0 _ rfl, k 1 _ rfl, k 2 _ rfl, k 3 _ rfl, k 4 _ rfl, k 5 _ rfl⟩

set_option maxRecDepth 100000 in
set_option maxHeartbeats 2000000 in
theorem chain_any (cs : Array Value) (h : HeadN) (g c : Nat) (l : List SectN) (n : Int) (bb : Bool) (w : World) (hv : HeadV cs h (.slice (some ⟨g, 0, none⟩) l.length c)) (hl : SlT SectN.cells 6 w (some ⟨g, 0, none⟩) l) (hg : g < w.heap.size)
    (hbd : ∀ s ∈ l, SectBd s) (hk : l.length ≤ 16) (h0 : 0 ≤ h.headers) (h1 : h.headers < 4294967296) (z0 : 0 ≤ h.size) (z1 : h.size < 4294967296) (n0 : 0 ≤ n) (n1 : n ≤ 9223372036854775807)
    (hb : bb = true ↔ chainP h.size n (roundS h.headers 4096) l) :
    Calls Tryz.prog 68 #[.agg cs, .int .i64 n] w fun e w' => e = .returned (.bool bb) ∧ Below w.heap.size w w' := by
  have HB0 := Lib.hid ((Below.refl w.heap.size w).alloc (Nat.le_refl _) (.cells cs 41))
  have HG0 := Lib.hid (heap_alloc_new w (.cells cs 41))
  have hr := roundS_bd4 h.headers h1
  have c4 := hv.c4
  have c5 := hv.c5
  have c38 := hv.c38
  have HV := Lib.hid hv
  have HL := Lib.hid hl
  have HB := Lib.hid hb
  clear hl hb hv
  generalize h.headers = y5 at *
  generalize h.size = y4 at *
  go_enter Tryz.func68, Tryz.ntmps68
  go_wp2_with (refine (round_any y5 4096 _ (by omega) (by omega) (by omega) (by omega)).mono ?_; rintro e w' ⟨rfl, rfl⟩)
  generalize roundS y5 4096 = N0 at *
  clear c5 c38
  generalize w.alloc (.cells cs 41) = w1 at HB0 HG0 ⊢
  go_loopw [5, 7, 8, 15] (fun o5 _ _ o15 wr => ∃ (i : Nat) (nx : Int), i ≤ l.length ∧ o15 = .int .i64 i ∧ o5 = .int .i64 nx ∧ 0 ≤ nx ∧ nx ≤ 4294967296 + i * 4294967296 ∧ (chainP y4 n N0 l ↔ chainP y4 n nx (l.drop i)) ∧ Below w.heap.size w wr ∧ wr.heap[w.heap.size]? = some (.cells cs 41 (0, 0))) (fun _ _ _ o15 _ => l.length - (intOf o15).toNat)
  case atStart => exact ⟨0, N0, by omega, rfl, rfl, by omega, by omega, by simp, HB0.out, HG0.out⟩
  case round =>
    obtain ⟨i, nx, hi, rfl, rfl, x0, x1, hch, hbel, hgg⟩ := hrel
    clear HB0 HG0
    have HCH := Lib.hid hch
    have HBE := Lib.hid hbel
    have HGG := Lib.hid hgg
    have HLT := Lib.hid (Array.getElem?_eq_some_iff.1 hgg).1
    have c4' : wr.cell? ⟨w.heap.size, 4, none⟩ = some (.int .i64 y4) := by rw [cell_of_row wr _ 4 _ _ _ hgg]; exact c4
    have c4a : ∀ o, (wr.alloc o).cell? ⟨w.heap.size, 4, none⟩ = some (.int .i64 y4) := fun o => by rw [World.cell?_alloc_lt _ _ _ HLT.out]; exact c4'
    clear hch hbel hgg
    by_cases hlt : i < l.length
    · have hlt' : (i : Int) < l.length := by omega
      obtain ⟨d0, d1, d2, d3, d4, d5⟩ := (HL.out.below HBE.out).at6 i hlt
      have hsb := hbd l[i] (List.getElem_mem hlt)
      have hdr : l.drop i = l[i] :: l.drop (i + 1) := List.drop_eq_getElem_cons hlt
      have HDR := Lib.hid hdr
      clear hdr
      generalize l[i] = s at *
      obtain ⟨nm, v, rva, raw, spot, ch⟩ := s
      simp only at d0 d1 d2 d3 d4 d5
      have hrb := roundS_bd4 v hsb.v1
      obtain ⟨v0, v1, r0, r1, w0, w1', s0, s1, ch0, ch1⟩ := hsb
      simp only at v0 v1 r0 r1 w0 w1' s0 s1 ch0 ch1
      have hX : bb = true ↔ stepP y4 n nx ⟨nm, v, rva, raw, spot, ch⟩ ∧ chainP y4 n (nx + roundS v 4096) (l.drop (i + 1)) := by rw [HB.out, HCH.out, HDR.out]; rfl
      have HR := Lib.hid (fun W => round_any v 4096 W (by omega) (by omega) (by omega) (by omega))
      have hcs : (rva != nx) = true ∧ bb = false ∨ (rva != nx) = false ∧ ((v == 0) = true ∧ bb = false ∨ (v == 0) = false ∧ (decide (y4 < v) = true ∧ bb = false ∨ decide (y4 < v) = false ∧ ((¬ raw % 512 = 0) ∧ bb = false ∨ raw % 512 = 0 ∧
          (roundS v 4096 < raw ∧ bb = false ∨ raw ≤ roundS v 4096 ∧ (0 < raw ∧ n < spot + raw ∧ bb = false ∨ 0 < raw ∧ spot + raw ≤ n ∧ (bb = true ↔ chainP y4 n (nx + roundS v 4096) (l.drop (i + 1))) ∨
          raw ≤ 0 ∧ (bb = true ↔ chainP y4 n (nx + roundS v 4096) (l.drop (i + 1)))))))) := by
        have hf : ∀ P : Prop, (P → False) → (bb = true ↔ P) → bb = false := fun P h1 h2 => by cases bb with
          | false => rfl
          | true => exact (h1 (h2.1 rfl)).elim
        unfold stepP at hX
        simp only at hX
        simp only [bne_iff_ne, ne_eq, bne_eq_false_iff_eq, beq_iff_eq, beq_eq_false_iff_ne, decide_eq_true_eq, decide_eq_false_iff_not]
        by_cases e1 : rva = nx
        · by_cases e2 : v = 0
          · exact .inr ⟨e1, .inl ⟨e2, hf _ (fun h => h.1.2.1 e2) hX⟩⟩
          · by_cases e3 : y4 < v
            · exact .inr ⟨e1, .inr ⟨e2, .inl ⟨e3, hf _ (fun h => by have := h.1.2.2.1; omega) hX⟩⟩⟩
            · by_cases e4 : raw % 512 = 0
              · by_cases e5 : roundS v 4096 < raw
                · exact .inr ⟨e1, .inr ⟨e2, .inr ⟨e3, .inr ⟨e4, .inl ⟨e5, hf _ (fun h => by have := h.1.2.2.2.2.1; omega) hX⟩⟩⟩⟩⟩
                · by_cases e6 : 0 < raw
                  · by_cases e7 : n < spot + raw
                    · exact .inr ⟨e1, .inr ⟨e2, .inr ⟨e3, .inr ⟨e4, .inr ⟨by omega, .inl ⟨e6, e7, hf _ (fun h => h.1.2.2.2.2.2 ⟨e6, e7⟩) hX⟩⟩⟩⟩⟩⟩
                    · exact .inr ⟨e1, .inr ⟨e2, .inr ⟨e3, .inr ⟨e4, .inr ⟨by omega, .inr (.inl ⟨e6, by omega, by rw [hX]; exact ⟨fun h => h.2, fun h => ⟨⟨e1, e2, by omega, e4, by omega, fun h => e7 h.2⟩, h⟩⟩⟩)⟩⟩⟩⟩⟩
                  · exact .inr ⟨e1, .inr ⟨e2, .inr ⟨e3, .inr ⟨e4, .inr ⟨by omega, .inr (.inr ⟨by omega, by rw [hX]; exact ⟨fun h => h.2, fun h => ⟨⟨e1, e2, by omega, e4, by omega, fun h => e6 h.1⟩, h⟩⟩⟩)⟩⟩⟩⟩⟩
              · exact .inr ⟨e1, .inr ⟨e2, .inr ⟨e3, .inl ⟨e4, hf _ (fun h => e4 h.1.2.2.2.1) hX⟩⟩⟩⟩
        · exact .inl ⟨e1, hf _ (fun h => e1 h.1.1) hX⟩
      have HBD := Lib.hid hbd
      clear hX hr h0 h1 hbd
      generalize roundS v 4096 = R at *
      rcases hcs with ⟨e1, rfl⟩ | ⟨e1, ⟨e2, rfl⟩ | ⟨e2, ⟨e3, rfl⟩ | ⟨e3, ⟨e4, rfl⟩ | ⟨e4, ⟨e5, rfl⟩ | ⟨e5, ⟨e6, e7, rfl⟩ | ⟨e6, e7, e8⟩ | ⟨e6, e8⟩⟩⟩⟩⟩⟩
      iterate 6
        · go_wp2_with (go_fit (HR.out _); rintro e w' ⟨rfl, rfl⟩)
          go_ret
          exact ⟨rfl, HBE.out.alloc HBE.out.size _⟩
      all_goals
        go_wp2_with (go_fit (HR.out _); rintro e w' ⟨rfl, rfl⟩)
        go_roundw
        case rel => exact ⟨i + 1, nx + R, by omega, by go_num, rfl, by omega, by omega, by rw [← HB.out, e8], HBE.out.alloc HBE.out.size _, by rw [heap_alloc_old _ _ HLT.out]; exact HGG.out⟩
        case measure => simp [intOf]; omega
    · obtain rfl : i = l.length := by omega
      have hbb : bb = decide (nx = y4) := by
        have h1 := HB.out
        rw [HCH.out, List.drop_length] at h1
        rw [Bool.eq_iff_iff, h1, decide_eq_true_eq]
        rfl
      subst hbb
      go_wp2_with fail
      go_ret
      refine ⟨congrArg (fun b => Ending.returned (.bool b)) ?_, HBE.out⟩
      rw [Bool.eq_iff_iff, beq_iff_eq, decide_eq_true_eq]
end Go.Proofs.YtplgdpjbkdagfaaGreat
