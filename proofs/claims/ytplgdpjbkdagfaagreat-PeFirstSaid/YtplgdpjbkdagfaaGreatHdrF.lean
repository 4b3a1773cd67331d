/- package hdr: sects. -/
import Derived.Test.YtplgdpjbkdagfaaGreatHdrE
import Derived.Test.YtplgdpjbkdagfaaGreatOwnT
import Derived.OwnWalk
namespace Go.Proofs.YtplgdpjbkdagfaaGreat
set_option maxRecDepth 100000
open Go.ChangeShapes Go.WideShapes Go.ChangeAt Go.RowKit
set_option linter.unusedVariables false
set_option linter.unusedSimpArgs false

/-- A section. -/
structure SectN where
  name : ByteArray
  vsize : Int
  rva : Int
  raw : Int
  spot : Int
  chars : Int

def SectN.cells (s : SectN) : List Value := [.string s.name, .int .i64 s.vsize, .int .i64 s.rva, .int .i64 s.raw, .int .i64 s.spot, .int .i64 s.chars]
theorem SectN.cells_len (s : SectN) : s.cells.length = 6 := rfl

/-- A section's cells, as they are written down. -/
def SectN.arr (s : SectN) : Array Value := #[.string s.name, .int .i64 s.vsize, .int .i64 s.rva, .int .i64 s.raw, .int .i64 s.spot, .int .i64 s.chars]
theorem SectN.arr_list (s : SectN) : s.arr.toList = s.cells := rfl
theorem SectN.arr_one (s : SectN) : s.arr.all (·.oneCell') = true := by simp [SectN.arr, Value.oneCell']
theorem built_sect (s : SectN) : Tryz.prog.built 72 [(0, .string s.name), (1, .int .i64 s.vsize), (2, .int .i64 s.rva), (3, .int .i64 s.raw), (4, .int .i64 s.spot), (5, .int .i64 s.chars)] = some s.arr := by
  kernel_rfl

/-- The section whose row begins at o. -/
def sectS (f : Nat → Int) (o : Nat) : SectN := ⟨nameS f o, rdF f (o + 8) 4, rdF f (o + 12) 4, rdF f (o + 16) 4, rdF f (o + 20) 4, rdF f (o + 36) 4⟩

def sectsS (f : Nat → Int) (o k : Nat) : List SectN := (List.range k).map fun j => sectS f (o + 40 * j)

/-- The world while sections are read into the row g of n: i of them are there. -/
structure SectsAt (w u : World) (g n : Nat) (s : Nat → SectN) (i : Nat) : Prop where
  bel : Below w.heap.size w u
  lt : g < u.heap.size
  le : w.heap.size ≤ g
  got : ∀ j, j < i → u.rangeAt g (j * 6) (s j).cells
  there : ∀ j, j < n → u.there g (j * 6) 6

theorem below_setCells {B : Nat} {a : World} {g : Nat} (hg : B ≤ g) : ∀ (vs : List Value) (o : Nat) (w : World), Below B a w → Below B a (w.setCells g o vs)
  | [], _, _, h => h
  | v :: r, o, w, h => below_setCells hg r (o + 1) _ (h.setCell hg v)

theorem size_setCells (g : Nat) : ∀ (vs : List Value) (o : Nat) (w : World), (w.setCells g o vs).heap.size = w.heap.size
  | [], _, _ => rfl
  | v :: r, o, w => by rw [World.setCells, size_setCells g r]; simp

theorem SectsAt.next {w u : World} {g n i : Nat} {s : Nat → SectN} (x : SectsAt w u g n s i) (hi : i < n) (l : List Value) (hl : l = (s i).cells) : SectsAt w (u.setCells g (i * 6) l) g n s (i + 1) := by
  subst hl
  refine ⟨below_setCells x.le _ _ _ x.bel, by rw [size_setCells]; exact x.lt, x.le, fun j hj => ?_, fun j hj => World.there_setCells (x.there j hj) _ _ _⟩
  by_cases e : j = i
  · subst e
    exact World.rangeAt_setCells_same _ _ _ _ (x.there j hi)
  · exact World.rangeAt_setCells_apart (x.got j (by omega)) _ _ _ (.inr (.inl (by rw [SectN.cells_len]; omega)))

theorem SectsAt.all {w u : World} {g n : Nat} {s : Nat → SectN} (x : SectsAt w u g n s n) : SlT SectN.cells 6 u (some ⟨g, 0, none⟩) ((List.range n).map s) :=
  .inr ⟨g, 0, rfl, x.lt, fun i hi j v hv => by
    rw [Nat.zero_add]
    simp only [List.length_map, List.length_range] at hi
    simp only [List.getElem_map, List.getElem_range] at hv
    exact x.got i hi j v hv⟩

/-- 'make([]T, n)', elements of whatever size. -/
theorem wpList_make_rows {P : Program} (w : World) {ops : Array Oper} {rest : List Oper} {o : Oper} {a : Act} {Q : Exit → Act → World → Prop}
    (hg : o.guard = none) (l c : Operand) (t : TypeId) (hop : o.op = Op.makeSlice t l c)
    (e : TypeId) (z : Value) (size bytes : Nat) (ht : P.underlying t = some (.slice e)) (hinfo : (P.info? e).map (fun i => (i.zero, i.size, i.bytes)) = some (some z, size, bytes))
    (kl kc : IntKind) (n : Nat) (hl : a.eval l = .int kl (n : Int)) (hc : a.eval c = .int kc (n : Int)) (hbytes : bytes * n ≤ 281474976710656) (h63 : n ≤ 9223372036854775807)
    (hK : wpList P ops Q rest (a.put o.dst (.slice (some ⟨w.heap.size, 0, none⟩) n n)) (w.alloc (.cells (madeCells z.cells (n * size)) e))) :
    wpList P ops Q (o :: rest) a w := by
  obtain ⟨i, hi, hzz⟩ := Option.map_eq_some_iff.1 hinfo
  simp only [Prod.mk.injEq] at hzz
  obtain ⟨hz, hs, hb⟩ := hzz
  refine wpList_plain hg fun K hK' => ?_
  have hb' : (i.bytes : Int) * (n : Int) ≤ 281474976710656 := by
    have h : ((i.bytes * n : Nat) : Int) ≤ 281474976710656 := by rw [hb]; omega
    rwa [Int.natCast_mul] at h
  have hrun := run_make (P := P) w t e i z ht hi hz kl kc n n (by omega) (Int.le_refl _) hb' (by omega)
  simp only [Int.toNat_natCast, hs] at hrun
  unfold Oper.wp
  simp [execOp, hop, hl, hc, hrun, Result.andThen]
  exact hK' _ _ hK

theorem SectsAt.start (w : World) (zc : Array Value) (e : TypeId) (n : Nat) (s : Nat → SectN) : SectsAt w (w.alloc (.cells (madeCells zc (n * 6)) e)) w.heap.size n s 0 :=
  ⟨(Below.refl _ w).alloc (Nat.le_refl _) _, by simp, Nat.le_refl _, fun j hj => by omega, fun j hj k hk => by
    have hh := heap_alloc_new w (.cells (madeCells zc (n * 6)) e)
    refine ⟨?_, frozen_of_row _ _ _ _ _ hh⟩
    rw [cell_of_row _ _ _ _ _ _ hh, Array.getElem?_eq_getElem (by rw [size_madeCells]; omega)]
    rfl⟩

set_option maxRecDepth 100000 in
set_option maxHeartbeats 400000 in
theorem sects_any (b off n cap : Nat) (f : Nat → Int) (o k : Nat) (w : World) (h : RowB w b off n cap f) (hk : 1 ≤ k) (hk2 : k ≤ 16) (ho : o + 40 * k ≤ n) (ho2 : o ≤ 8589934592) :
    Calls Tryz.prog 67 #[.slice (some ⟨b, off, none⟩) n cap, .int .i64 o, .int .i64 k] w fun e w' => e = .returned (.slice (some ⟨w.heap.size, 0, none⟩) k k) ∧ SlT SectN.cells 6 w' (some ⟨w.heap.size, 0, none⟩) (sectsS f o k) ∧ Below w.heap.size w w' := by
  have HR := Lib.hid h
  have hcn := h.len
  have hcm := h.most
  clear h
  go_enter Tryz.func67, Tryz.ntmps67
  go_wp2_with (at_make; refine wpList_make_rows _ rfl (.tmp 9) (.tmp 9) 39 rfl 72 (.agg #[.string ⟨#[]⟩, .int .i64 0, .int .i64 0, .int .i64 0, .int .i64 0, .int .i64 0]) 6 56 (by kernel_rfl) (by kernel_rfl) .i64 .i64 k (by simp [Act.eval, Act.put]) (by simp [Act.eval, Act.put]) (by omega) (by omega) ?_)
  go_loopw [1, 8, 13] (fun o1 o8 o13 wr => ∃ i : Nat, i ≤ k ∧ o13 = .int .i64 i ∧ o1 = .int .i64 ((o + 40 * i : Nat) : Int) ∧ SectsAt w wr w.heap.size k (fun j => sectS f (o + 40 * j)) i) (fun _ _ o13 _ => k - (intOf o13).toNat)
  case atStart => exact ⟨0, by omega, rfl, by simp, SectsAt.start w _ _ k _⟩
  case round =>
    obtain ⟨i, hi, rfl, rfl, ha⟩ := hrel
    have HA := Lib.hid ha
    clear ha
    by_cases hlt : i < k
    · have hlt' : (i : Int) < k := by omega
      have hb := HR.out.below HA.out.bel
      have hn := name_any b off n cap f (o + 40 * i) (cap - (o + 40 * i)) _ hb (by omega) (by omega)
      have h1 := hu32 b off n cap f (o + 40 * i + 8) _ hb (by omega)
      have h2 := hu32 b off n cap f (o + 40 * i + 12) _ hb (by omega)
      have h3 := hu32 b off n cap f (o + 40 * i + 16) _ hb (by omega)
      have h4 := hu32 b off n cap f (o + 40 * i + 20) _ hb (by omega)
      have h5 := hu32 b off n cap f (o + 40 * i + 36) _ hb (by omega)
      have hth := HA.out.there i hlt
      generalize hP : o + 40 * i = p at *
      rw [show ((p + 8 : Nat) : Int) = (p : Int) + 8 by omega] at h1
      rw [show ((p + 12 : Nat) : Int) = (p : Int) + 12 by omega] at h2
      rw [show ((p + 16 : Nat) : Int) = (p : Int) + 16 by omega] at h3
      rw [show ((p + 20 : Nat) : Int) = (p : Int) + 20 by omega] at h4
      rw [show ((p + 36 : Nat) : Int) = (p : Int) + 36 by omega] at h5
      have HN := Lib.hid hn
      have H1 := Lib.hid h1
      have H2 := Lib.hid h2
      have H3 := Lib.hid h3
      have H4 := Lib.hid h4
      have H5 := Lib.hid h5
      have hp1 : p + 40 ≤ n := by omega
      clear hn h1 h2 h3 h4 h5 hb
      go_wp2_with (first | (go_fit HN.out; rintro e w' ⟨rfl, rfl⟩) | (go_fit H1.out; rintro e w' ⟨rfl, rfl⟩) | (go_fit H2.out; rintro e w' ⟨rfl, rfl⟩) | (go_fit H3.out; rintro e w' ⟨rfl, rfl⟩) | (go_fit H4.out; rintro e w' ⟨rfl, rfl⟩))
      refine H5.out.mono ?_
      rintro e w' ⟨rfl, rfl⟩
      rename_i hK
      refine hK _ _ ?_
      refine wpList_build_to rfl 72 _ rfl [(0, .string (sectS f p).name), (1, .int .i64 (sectS f p).vsize), (2, .int .i64 (sectS f p).rva), (3, .int .i64 (sectS f p).raw), (4, .int .i64 (sectS f p).spot), (5, .int .i64 (sectS f p).chars)] (sectS f p).arr ?hv ?hb ?_
      case hv => simp [go_sem, sectS]
      case hb => exact built_sect _
      have hone := (sectS f p).arr_one
      have hsz : (sectS f p).arr.size = 6 := rfl
      have hcl := Lib.hid ((sectS f p).arr_list)
      generalize (sectS f p).arr = C1 at hone hsz hcl ⊢
      go_wp2_with (refine wpList_store_mid rfl 72 _ _ rfl w.heap.size (i * 6) C1 ?hx ?hy (by rw [hsz]; exact hth) (by rw [hsz]; rfl) hone ?_)
      case hx => rfl
      case hy => rfl
      go_roundw
      case rel =>
        refine ⟨i + 1, by omega, by go_num, ?_, HA.out.next hlt _ (by rw [hP]; exact hcl.out)⟩
        rw [show o + 40 * (i + 1) = p + 40 by omega]
        go_num
      case measure => simp [intOf]; omega
    · obtain rfl : i = k := by omega
      go_wp2_with fail
      go_ret
      exact ⟨rfl, HA.out.all, HA.out.bel⟩
end Go.Proofs.YtplgdpjbkdagfaaGreat
