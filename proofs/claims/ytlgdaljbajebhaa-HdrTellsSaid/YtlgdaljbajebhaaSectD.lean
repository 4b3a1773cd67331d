/- package sect: ProtAt where no section has the place, byteAt, lay. -/
import Derived.Test.YtlgdaljbajebhaaSectC
namespace Go.Proofs.Ytlgdaljbajebhaa
open Go.ChangeShapes Go.WideShapes Go.ChangeAt Go.RowKit
set_option linter.unusedVariables false

set_option maxRecDepth 100000 in
theorem protAt_none (cs : Array Value) (h : HeadN) (g c : Nat) (l : List SectN) (r : Int) (w : World) (hh : HeadL w cs h g c l) (r0 : 0 ≤ r) (r1 : r < roundS h.headers 4096) (hof : ofS r l 0 = none) :
    Calls Try.prog 37 #[.agg cs, .int .i64 r] w fun e u => e = .returned (.int .i64 1) ∧ Below w.heap.size w u := by
  have hrb := roundS_bd4 h.headers hh.hd1
  have HH := Lib.hid hh
  have HB0 := Lib.hid ((Below.refl w.heap.size w).alloc (Nat.le_refl _) (.cells cs 32))
  have HG := Lib.hid (heap_alloc_new w (.cells cs 32))
  have c5 := hh.hv.c5
  have HCZ := Lib.hid hh.hv.size
  have HO := Lib.hid (fun (W : World) (hb : Below w.heap.size w W) => of_any cs h g c l r W (HH.out.below hb) (by omega) (by omega))
  rw [hof] at HO
  have HR := Lib.hid (fun W => round_any h.headers 4096 W (by have := hh.hd0; omega) (by have := hh.hd1; omega) (by omega) (by omega))
  clear hh hof
  generalize roundS h.headers 4096 = R at *
  generalize h.headers = y5 at *
  go_enter Try.func37, Try.ntmps37
  go_wp2_with (refine wpList_load_row rfl 32 _ rfl w.heap.size rfl 32 cs (0, 0) _ HG.out rfl rfl (by rw [HCZ.out]; rfl) ?_)
  refine (HO.out _ HB0.out).mono ?_
  rintro e u ⟨rfl, hb⟩
  have HU := Lib.hid (HB0.out.trans (hb.mono HB0.out.size))
  have k5 := (cell_of_row _ _ 5 _ _ _ ((hb.block w.heap.size (by simp)).trans HG.out)).trans c5
  clear hb c5
  go_wp2_with (go_fit (HR.out _); rintro e u2 ⟨rfl, rfl⟩)
  go_ret
  exact ⟨rfl, HU.out⟩

/-- The byte of n bytes F that stands at a place, or a nought. -/
def byteS (F : Nat → Int) (n k : Nat) : Int := if k < n then F k else 0
theorem byteS_bd {F : Nat → Int} (h : Bytes255 F) (n k : Nat) : 0 ≤ byteS F n k ∧ byteS F n k ≤ 255 := by
  unfold byteS; split
  · exact h k
  · omega

theorem byteAt_any (b off n cap : Nat) (F : Nat → Int) (k i : Nat) (w : World) (h : RowB w b off n cap F) (hk : k ≤ 4611686018427387904) (hi : i ≤ 4611686018427387904) :
    Calls Try.prog 46 #[.slice (some ⟨b, off, none⟩) n cap, .int .i64 k, .int .i64 i] w fun e u => e = .returned (.int .u8 (byteS F n (k + i))) ∧ w = u := by
  have hl := h.len
  have hm := h.most
  have k0 : (0 : Int) ≤ k := by omega
  by_cases c : k + i < n
  · have hc := h.row (k + i) c
    have hsum : (k : Int) + i = ((k + i : Nat) : Int) := by omega
    have c1 : (k : Int) < n := by omega
    have c2 : (i : Int) < n - k := by omega
    have hb : byteS F n (k + i) = F (k + i) := by unfold byteS; rw [if_pos c]
    rw [hb]
    have hkn : (k + i : Nat) < n := c
    clear h
    generalize k + i = q at *
    go_enter Try.func46, Try.ntmps46
    go_wp2_with fail
    go_ret
    exact ⟨rfl, rfl⟩
  · have hb : byteS F n (k + i) = 0 := by unfold byteS; rw [if_neg c]
    rw [hb]
    clear h
    by_cases c1 : (k : Int) < n
    · have c2 : (n : Int) - k ≤ i := by omega
      go_enter Try.func46, Try.ntmps46
      go_wp2_with fail
      go_ret
      exact ⟨rfl, rfl⟩
    · have c1' : (n : Int) ≤ k := by omega
      go_enter Try.func46, Try.ntmps46
      go_wp2_with fail
      go_ret
      exact ⟨rfl, rfl⟩

/-- What lies in memory when n bytes from k on are laid at r. -/
def layF (N : Nat) (F : Nat → Int) (nb : Nat) (f : Nat → Int) (r k n : Nat) (q : Nat) : Int := if r ≤ q ∧ q < r + n ∧ q < N then byteS F nb (k + (q - r)) else f q

set_option maxRecDepth 100000 in
set_option maxHeartbeats 2000000 in
theorem lay_any (g N : Nat) (f : Nat → Int) (b off nb cap : Nat) (F : Nat → Int) (r k n base : Nat) (w : World) (ho : OwnC w base g N N f) (h : RowB w b off nb cap F) (hne : b < base) (hN : N ≤ 1000000) (hr : r ≤ 4294967296) (hk : k ≤ 4294967296) (hn : n ≤ 4294967296) :
    Calls Try.prog 38 #[.slice (some ⟨g, 0, none⟩) N N, .int .i64 r, .slice (some ⟨b, off, none⟩) nb cap, .int .i64 k, .int .i64 n] w fun e u => e = .returned (.tuple #[]) ∧ OwnC u base g N N (layF N F nb f r k n) ∧ Below base w u := by
  have HO := Lib.hid ho
  have HR := Lib.hid h
  have r0 : (0 : Int) ≤ r := by omega
  clear ho h
  go_enter Try.func38, Try.ntmps38
  by_cases c : (N : Int) ≤ r
  · go_wp2_with fail
    go_returns
    exact ⟨rfl, HO.out.congr (fun q => by
      unfold layF
      split
      · exact byteS_bd HR.out.by255 _ _
      · exact HO.out.by255 q) (fun q hq => by unfold layF; rw [if_neg (by omega)]), Below.refl _ _⟩
  · have c' : (r : Int) < N := by omega
    obtain ⟨M, hM⟩ : ∃ M : Nat, min (n : Int) ((N : Int) - r) = M := ⟨(min (n : Int) ((N : Int) - r)).toNat, by omega⟩
    have HMM := Lib.hid hM
    have hM1 : r + M ≤ N := by omega
    go_wp2_with fail
    go_loopw [12] (fun o12 wr => ∃ i : Nat, i ≤ M ∧ o12 = .int .i64 i ∧ OwnC wr base g N N (layF N F nb f r k i) ∧ Below base w wr) (fun o12 _ => M - (intOf o12).toNat)
    case atStart => exact ⟨0, by omega, rfl, HO.out.congr (fun q => by
      unfold layF
      split
      · exact byteS_bd HR.out.by255 _ _
      · exact HO.out.by255 q) (fun q hq => by unfold layF; rw [if_neg (by omega)]), Below.refl _ _⟩
    case round =>
      obtain ⟨i, hi, rfl, ho, hb⟩ := hrel
      have HOI := Lib.hid ho
      have HB := Lib.hid hb
      clear ho hb hM
      by_cases hlt : i < M
      · have hlt' : (i : Int) < M := by omega
        have HBY := Lib.hid (byteAt_any b off nb cap F k i wr ⟨fun j hj => (HB.out.cell (p := ⟨b, _, none⟩) hne).trans (HR.out.row j hj), HR.out.by255, Nat.lt_of_lt_of_le HR.out.lt HB.out.size, HR.out.len, HR.out.most⟩ (by omega) (by omega))
        have hsum : (r : Int) + i = ((r + i : Nat) : Int) := by omega
        have x0 := HOI.out.row (r + i) (by omega)
        rw [Nat.zero_add] at x0
        have z0 := (HOI.out.wr (r + i) (by omega)).2
        have hbd := byteS_bd HR.out.by255 nb (k + i)
        have hri : r + i < N := by omega
        obtain ⟨p, hp⟩ : ∃ p, r + i = p := ⟨_, rfl⟩
        have HP := Lib.hid hp
        rw [hp] at hsum x0 z0 hri
        clear hp
        go_wp2_with (go_fit HBY.out; rintro e u ⟨rfl, rfl⟩)
        go_roundw
        case rel => exact ⟨i + 1, by omega, by go_num, (HOI.out.set p (byteS F nb (k + i)) hri hbd.1 hbd.2).congr (fun q => by
            unfold layF
            split
            · exact byteS_bd HR.out.by255 _ _
            · exact HO.out.by255 q) (fun q hq => by
            have hp := HP.out
            unfold setF
            by_cases e : q = p
            · subst e
              rw [if_pos rfl]
              unfold layF
              rw [if_pos (by omega), show q - r = i by omega]
            · rw [if_neg e]
              unfold layF
              by_cases e2 : r ≤ q ∧ q < r + i ∧ q < N
              · rw [if_pos e2, if_pos (by omega)]
              · rw [if_neg e2, if_neg (by omega)]), HB.out.setCell HOI.out.le _⟩
        case measure => simp [intOf]; omega
      · obtain rfl : i = M := by omega
        go_wp2_with fail
        go_returns
        exact ⟨rfl, HOI.out.congr (fun q => by
          unfold layF
          split
          · exact byteS_bd HR.out.by255 _ _
          · exact HO.out.by255 q) (fun q hq => by
          have hM := HMM.out
          unfold layF
          by_cases e : r ≤ q ∧ q < r + i ∧ q < N
          · rw [if_pos e, if_pos (by omega)]
          · rw [if_neg e, if_neg (by omega)]), HB.out⟩
end Go.Proofs.Ytlgdaljbajebhaa
