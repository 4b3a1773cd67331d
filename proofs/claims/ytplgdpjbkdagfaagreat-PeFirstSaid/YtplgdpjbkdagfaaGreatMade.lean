/- law 5: Made. -/
import Derived.Test.YtplgdpjbkdagfaaGreatMadeS
import Derived.Test.YtplgdpjbkdagfaaGreatMask
namespace Go.Proofs.YtplgdpjbkdagfaaGreat
set_option maxRecDepth 100000
open Go.ChangeShapes Go.WideShapes Go.ChangeAt Go.RowKit
set_option linter.unusedVariables false
set_option linter.unusedSimpArgs false

theorem OwnC.made (w : World) (n : Nat) (hn : n ≤ 9223372036854775807) : OwnC (w.alloc (.cells (madeCells (Value.int .u8 0).cells n) 5)) w.heap.size w.heap.size n n (fun _ => 0) := by
  have h := own_made w 5 n (.int .u8 0) rfl
  exact ⟨Nat.le_refl _, by simp, fun i hi => by rw [Nat.zero_add]; exact h.cell hi, fun _ => by omega, Nat.le_refl _, hn, fun j hj => ⟨by rw [h.cell hj]; rfl, h.frozen hj⟩⟩

theorem wpList_makeC {w : World} {ops : Array Oper} {rest : List Oper} {o : Oper} {a : Act} {Q : Exit → Act → World → Prop}
    (hg : o.guard = none) (l c : Operand) (hop : o.op = Op.makeSlice 25 l c) (base : Nat) (kl kc : IntKind) (n : Nat) (hl : a.eval l = .int kl n) (hc : a.eval c = .int kc n) (b2 : n ≤ 281474976710656) (b4 : base ≤ w.heap.size)
    (hK : ∀ w', OwnC w' base w.heap.size n n (fun _ => 0) → Below w.heap.size w w' → w'.heap.size = w.heap.size + 1 → wpList Tryz.prog ops Q rest (a.put o.dst (.slice (some ⟨w.heap.size, 0, none⟩) n n)) w') :
    wpList Tryz.prog ops Q (o :: rest) a w := by
  obtain ⟨i0, hi, hz0, hz1, hz2⟩ := info_parts infoU8
  refine wpList_plain hg fun K hK' => ?_
  have hbb : (i0.bytes : Int) * (n : Int) ≤ 281474976710656 := by rw [hz2]; omega
  have hrun := run_make (P := Tryz.prog) w 25 5 i0 (.int .u8 0) Tryz.underlying25 hi hz0 kl kc n n (by omega) (Int.le_refl _) hbb (by omega)
  rw [hz1] at hrun
  simp only [Int.toNat_natCast, Nat.mul_one] at hrun
  unfold Oper.wp
  simp [execOp, hop, hl, hc, hrun, Result.andThen]
  exact hK' _ _ (hK _ ((OwnC.made w n (by omega)).weaken b4) ((Below.refl w.heap.size w).alloc (Nat.le_refl _) _) (by simp))

theorem below_setCells' {B : Nat} {a : World} {g : Nat} (hg : B ≤ g) (vs : List Value) (o : Nat) (w : World) (h : Below B a w) : Below B a (w.setCells g o vs) := below_setCells hg vs o w h

theorem wpList_copyC {w : World} {ops : Array Oper} {rest : List Oper} {o : Oper} {a : Act} {Q : Exit → Act → World → Prop} (hgd : o.guard = none) (d x : Operand)
    (ho : o.op = .call { callee := .builtin .copy, args := #[d, x], argTypes := #[25, 9] })
    {base g n cap off len c : Nat} {t : ByteArray} {f : Nat → Int} (hown : OwnC w base g n cap f) (hle : t.size ≤ len) (hfit : off + t.size ≤ n)
    (hd : a.eval d = .slice (some ⟨g, off, none⟩) len c) (hx : a.eval x = .string t)
    (hK : ∀ w', OwnC w' base g n cap (copyF f off t) → Below base w w' → w'.heap.size = w.heap.size → wpList Tryz.prog ops Q rest (a.put o.dst (goInt t.size)) w') : wpList Tryz.prog ops Q (o :: rest) a w := by
  obtain ⟨i0, hi, hz0, hz1, hz2⟩ := info_parts infoU8
  have hl : (t.data.toList.map fun x => Value.int .u8 (x.toNat : Int)).length = t.size := by rw [List.length_map]; rfl
  have hlen := hown.len
  have hin : ∀ j, j < t.size → (w.cell? ⟨g, off + j, none⟩).isSome = true := fun j hj => (hown.wr (off + j) (by omega)).1
  have hrun := run_copy_string (P := Tryz.prog) w 25 9 o.type 5 g off len c t Tryz.underlying25 (fun w => by simp [sizeOf, typeInfo, hi, hz1]) hle hin (fun j hj => (hown.wr (off + j) (by omega)).2)
  refine wpList_plain hgd fun K hK' => ?_
  unfold Oper.wp execOp
  simp only [ho, resolve, invoke, builtin, Sem.run_bind, Sem.run_pure, Result.andThen_ok, List.map_toArray, List.map_cons, List.map_nil, hd, hx, hrun]
  refine hK' _ _ (hK _ ⟨hown.le, by rw [size_setCells]; exact hown.lt, fun i hi' => ?_, copyF255 hown.by255 off t, hown.len, hown.most, fun j hj => ⟨World.isSome_setCells _ _ _ _ _ (hown.wr j hj).1, by rw [World.frozen?_setCells]; exact (hown.wr j hj).2⟩⟩ (below_setCells' hown.le _ _ _ (Below.refl base w)) (size_setCells _ _ _ _))
  rw [Nat.zero_add]
  unfold copyF
  by_cases e : off ≤ i ∧ i < off + t.size
  · rw [if_pos e]
    have := World.cell?_setCells_in g (t.data.toList.map fun x => Value.int .u8 (x.toNat : Int)) off w (by rw [hl]; exact hin) (i - off) (by rw [hl]; omega)
    rw [show off + (i - off) = i by omega] at this
    rw [this]
    have h2 : i - off < t.data.size := by have : t.data.size = t.size := rfl; omega
    have h3 : i - off < t.size := h2
    unfold PlainAid.bt
    rw [dif_pos h3]
    simp
    rfl
  · rw [if_neg e, World.cell?_setCells_out _ _ _ _ _ (fun _ _ => by rw [hl]; show i < off ∨ off + t.size ≤ i; omega)]
    have := hown.row i hi'
    rwa [Nat.zero_add] at this

/-- put, at numbers. -/
theorem put_at (base b n cap : Nat) (f : Nat → Int) (o' k' : Int) (o k : Nat) (v : Int) (w : World) (h : OwnC w base b n cap f) (hb : base ≤ w.heap.size) (eo : o' = o) (ek : k' = k) (hn : n ≤ 1000000) (k1 : 1 ≤ k) (k8 : k ≤ 8) (ho : o + k ≤ n) (v0 : 0 ≤ v) (v1 : v ≤ 18446744073709551615) :
    Calls Tryz.prog 70 #[.slice (some ⟨b, 0, none⟩) n cap, .int .i64 o', .int .i64 k', .int .u64 v] w fun e w' =>
      ∃ g c, e = .returned (.slice (some ⟨g, 0, none⟩) n c) ∧ OwnC w' base g n c (putI f o v k) ∧ Below w.heap.size w w' := by
  subst eo ek
  refine (put_any b n cap f o k v w h.rowB hn k1 k8 ho v0 v1).mono ?_
  rintro e w' ⟨g, c, rfl, h1, h2⟩
  exact ⟨g, c, rfl, h1.weaken hb, h2⟩

theorem and_3fff (n : Int) : bits .and .i64 n 16383 = n % 16384 := i64_mask n 14 (by omega)
theorem and_1fff (n : Int) : bits .and .i64 n 8191 = n % 8192 := i64_mask n 13 (by omega)

set_option maxRecDepth 100000 in
set_option maxHeartbeats 4000000 in
theorem made_any (AS : Option Addr) (l : List Trip) (cs : Nat) (L : Nat → Trip) (hL : ∀ i, l[i]? = some (L i) ∨ l.length ≤ i) (w : World) (hl : 1 ≤ l.length) (hS : SlT tripC 3 w AS l) :
    Calls Tryz.prog 25 #[.slice AS l.length cs, .slice none 0 0] w fun e w' =>
      ∃ g c F, e = .returned (.slice (some ⟨g, 0, none⟩) (atS L (min l.length 6)) c) ∧ OwnC w' w.heap.size g (atS L (min l.length 6)) c F ∧ MadeP L (min l.length 6) F ∧ Below w.heap.size w w' := by
  have HL := Lib.hid hL
  have hlen : ((l.length : Int) == 0) = false := by rw [beq_eq_false_iff_ne]; omega
  have hmin : min (l.length : Int) 6 = ((min l.length 6 : Nat) : Int) := by omega
  obtain ⟨b, off, hAS, hblt, hcel⟩ : ∃ b off, AS = some ⟨b, off, none⟩ ∧ b < w.heap.size ∧ ∀ (i : Nat) (hi : i < l.length) (j : Nat) (v : Value), (tripC l[i])[j]? = some v → w.cell? ⟨b, off + (i * 3 + j), none⟩ = some v := by
    rcases hS with h | h
    · rw [h] at hl; simp at hl
    · exact h
  subst hAS
  have HCL := Lib.hid hcel
  have HBLT := Lib.hid hblt
  clear hS hL hcel hblt
  go_enter Tryz.func25, Tryz.ntmps25
  go_wp2_with (first
    | (at_make; refine wpList_makeC rfl _ _ rfl w.heap.size .i64 .i64 1024 rfl rfl (by omega) (Nat.le_refl _) ?_; intro w1 ho hb hs; have HO1 := Lib.hid ho; have HB1 := Lib.hid hb; clear ho hb hs)
    | (refine wpList_copyC rfl _ _ rfl (off := 0) (t := ⟨#[77, 90]⟩) HO1.out (by decide) (by decide) rfl rfl ?_; intro w2 ho hb hs; have HO2 := Lib.hid ho; have HB2 := Lib.hid (HB1.out.trans (hb.mono (Nat.le_refl _))); clear ho hb hs HO1 HB1))
  refine (put_at w.heap.size _ _ _ _ _ _ 60 4 64 _ HO2.out HB2.out.size rfl rfl (by omega) (by omega) (by omega) (by omega) (by omega) (by omega)).mono ?_
  rintro e w3 ⟨g3, c3, rfl, ho, hb⟩
  have HO3 := Lib.hid ho
  have HB3 := Lib.hid (HB2.out.trans (hb.mono HB2.out.size))
  clear ho hb HO2 HB2
  have hc3 := HO3.out.len
  go_wp2_with (refine wpList_copyC rfl _ _ rfl (off := 64) (t := ⟨#[80, 69, 0, 0]⟩) HO3.out (by decide) (by decide) rfl rfl ?_; intro w4 ho hb hs; have HO4 := Lib.hid ho; have HB4 := Lib.hid (HB3.out.trans (hb.mono (Nat.le_refl _))); clear ho hb hs HO3 HB3)
  refine (put_at w.heap.size _ _ _ _ _ _ 68 2 34404 _ HO4.out HB4.out.size rfl rfl (by omega) (by omega) (by omega) (by omega) (by omega) (by omega)).mono ?_
  rintro e w5 ⟨g5, c5, rfl, ho, hb⟩
  have HO5 := Lib.hid ho
  have HB5 := Lib.hid (HB4.out.trans (hb.mono HB4.out.size))
  clear ho hb HO4 HB4
  go_wp2_with fail
  refine (put_at w.heap.size _ _ _ _ _ _ 70 2 ((min l.length 6 : Nat) : Int) _ HO5.out HB5.out.size rfl rfl (by omega) (by omega) (by omega) (by omega) (by omega) (by omega)).mono ?_
  rintro e w6 ⟨g6, c6, rfl, ho, hb⟩
  have HO6 := Lib.hid ho
  have HB6 := Lib.hid (HB5.out.trans (hb.mono HB5.out.size))
  clear ho hb HO5 HB5
  go_wp2_with fail
  refine (put_at w.heap.size _ _ _ _ _ _ 72 4 77 _ HO6.out HB6.out.size rfl rfl (by omega) (by omega) (by omega) (by omega) (by omega) (by omega)).mono ?_
  rintro e w7 ⟨g7, c7, rfl, ho, hb⟩
  have HO7 := Lib.hid ho
  have HB7 := Lib.hid (HB6.out.trans (hb.mono HB6.out.size))
  clear ho hb HO6 HB6
  go_wp2_with fail
  refine (put_at w.heap.size _ _ _ _ _ _ 84 2 240 _ HO7.out HB7.out.size rfl rfl (by omega) (by omega) (by omega) (by omega) (by omega) (by omega)).mono ?_
  rintro e w8 ⟨g8, c8, rfl, ho, hb⟩
  have HO8 := Lib.hid ho
  have HB8 := Lib.hid (HB7.out.trans (hb.mono HB7.out.size))
  clear ho hb HO7 HB7
  go_wp2_with fail
  refine (put_at w.heap.size _ _ _ _ _ _ 86 2 8226 _ HO8.out HB8.out.size rfl rfl (by omega) (by omega) (by omega) (by omega) (by omega) (by omega)).mono ?_
  rintro e w9 ⟨g9, c9, rfl, ho, hb⟩
  have HO9 := Lib.hid ho
  have HB9 := Lib.hid (HB8.out.trans (hb.mono HB8.out.size))
  clear ho hb HO8 HB8
  go_wp2_with fail
  refine (put_at w.heap.size _ _ _ _ _ _ 88 2 523 _ HO9.out HB9.out.size rfl rfl (by omega) (by omega) (by omega) (by omega) (by omega) (by omega)).mono ?_
  rintro e w10 ⟨g10, c10, rfl, ho, hb⟩
  have HO10 := Lib.hid ho
  have HB10 := Lib.hid (HB9.out.trans (hb.mono HB9.out.size))
  clear ho hb HO9 HB9
  go_wp2_with fail
  refine (put_at w.heap.size _ _ _ _ _ _ 112 8 65536 _ HO10.out HB10.out.size rfl rfl (by omega) (by omega) (by omega) (by omega) (by omega) (by omega)).mono ?_
  rintro e w11 ⟨g11, c11, rfl, ho, hb⟩
  have HO11 := Lib.hid ho
  have HB11 := Lib.hid (HB10.out.trans (hb.mono HB10.out.size))
  clear ho hb HO10 HB10
  go_wp2_with fail
  refine (put_at w.heap.size _ _ _ _ _ _ 120 4 4096 _ HO11.out HB11.out.size rfl rfl (by omega) (by omega) (by omega) (by omega) (by omega) (by omega)).mono ?_
  rintro e w12 ⟨g12, c12, rfl, ho, hb⟩
  have HO12 := Lib.hid ho
  have HB12 := Lib.hid (HB11.out.trans (hb.mono HB11.out.size))
  clear ho hb HO11 HB11
  go_wp2_with fail
  refine (put_at w.heap.size _ _ _ _ _ _ 124 4 512 _ HO12.out HB12.out.size rfl rfl (by omega) (by omega) (by omega) (by omega) (by omega) (by omega)).mono ?_
  rintro e w13 ⟨g13, c13, rfl, ho, hb⟩
  have HO13 := Lib.hid ho
  have HB13 := Lib.hid (HB12.out.trans (hb.mono HB12.out.size))
  clear ho hb HO12 HB12
  go_wp2_with fail
  refine (put_at w.heap.size _ _ _ _ _ _ 148 4 1024 _ HO13.out HB13.out.size rfl rfl (by omega) (by omega) (by omega) (by omega) (by omega) (by omega)).mono ?_
  rintro e w14 ⟨g14, c14, rfl, ho, hb⟩
  have HO14 := Lib.hid ho
  have HB14 := Lib.hid (HB13.out.trans (hb.mono HB13.out.size))
  clear ho hb HO13 HB13
  go_wp2_with fail
  refine (put_at w.heap.size _ _ _ _ _ _ 196 4 16 _ HO14.out HB14.out.size rfl rfl (by omega) (by omega) (by omega) (by omega) (by omega) (by omega)).mono ?_
  rintro e w15 ⟨g15, c15, rfl, ho, hb⟩
  have HO15 := Lib.hid ho
  have HB15 := Lib.hid (HB14.out.trans (hb.mono HB14.out.size))
  clear ho hb HO14 HB14
  go_wp2_with fail
  have HF := Lib.hid (MadeI.start L ((min l.length 6 : Nat) : Int) (by omega) (by omega))
  have hN1 : min l.length 6 ≤ l.length := by omega
  have hN2 : min l.length 6 ≤ 6 := by omega
  have hN3 : 1 ≤ min l.length 6 := by omega
  have HOL : Hid (OwnC w15 w.heap.size g15 1024 c15 (preF ((min l.length 6 : Nat) : Int))) := HO15
  clear HO15 hmin
  obtain ⟨N, hNN⟩ : ∃ N, min l.length 6 = N := ⟨_, rfl⟩
  have HNN := Lib.hid hNN
  simp only [hNN] at hN1 hN2 hN3 HF HOL ⊢
  clear hNN
  go_loopw [6, 7, 8, 9, 10, 11, 12, 13, 14] (fun o6 o7 o8 _ _ _ _ _ _ wr => ∃ (i g c : Nat) (F : Nat → Int), i ≤ N ∧ o6 = .slice (some ⟨g, 0, none⟩) (atS L i) c ∧ o7 = .int .i64 (rvaS L i) ∧ o8 = .int .i64 i ∧ OwnC wr w.heap.size g (atS L i) c F ∧ MadeI L N i F ∧ Below w.heap.size w wr) (fun _ _ o8 _ _ _ _ _ _ _ => N - (intOf o8).toNat)
  case atStart => exact ⟨0, g15, c15, _, by omega, rfl, rfl, rfl, HOL.out, HF.out, HB15.out⟩
  case round =>
    obtain ⟨i, g, c, F, hi, rfl, rfl, rfl, ho, hF, hb⟩ := hrel
    have HO := Lib.hid ho
    have HF := Lib.hid hF
    have HB := Lib.hid hb
    clear ho hF hb HOL HB15
    by_cases hlt : i < N
    · have hlt' : (i : Int) < N := by omega
      have hil : i < l.length := by omega
      have hLi : l[i] = L i := by
        rcases HL.out i with h | h
        · rw [List.getElem?_eq_getElem hil] at h; injection h
        · omega
      have hcl := HCL.out i hil
      rw [hLi] at hcl
      have d0 : wr.cell? ⟨b, off + i * 3, none⟩ = some (.int .i64 (L i).1) := (HB.out.cell (p := ⟨b, _, none⟩) HBLT.out).trans (hcl 0 _ rfl)
      have d1 : wr.cell? ⟨b, off + i * 3 + 1, none⟩ = some (.int .i64 (L i).2.1) := (HB.out.cell (p := ⟨b, _, none⟩) HBLT.out).trans (hcl 1 _ rfl)
      have d2 : wr.cell? ⟨b, off + i * 3 + 2, none⟩ = some (.int .i64 (L i).2.2) := (HB.out.cell (p := ⟨b, _, none⟩) HBLT.out).trans (hcl 2 _ rfl)
      have HCLI := Lib.hid hcl
      clear hcl hLi
      have hat := atS_bd L i
      have hrv := rvaS_bd L i
      have hv := vS_bd (L i)
      have hfu := fullS_bd (L i)
      have hra := rawS_bd (L i)
      have hri := rightS_bd (L i)
      have m1 := and_3fff (L i).1
      have m2 := and_1fff (L i).2.1
      have m3 := and_7 (L i).2.2
      obtain ⟨p, hp⟩ : ∃ p : Nat, 328 + 40 * (i : Int) = p := ⟨328 + 40 * i, by omega⟩
      have hpn : p = 328 + 40 * i := by omega
      have hp6 : p ≤ 528 := by omega
      have HPN := Lib.hid hpn
      have HRD := Lib.hid (fun W => rround_any (vS (L i)) 4096 W (by omega) (by omega) (by omega) (by omega))
      have hvd : (L i).1 % 16384 + 1 = vS (L i) := rfl
      have hfd : roundS (vS (L i)) 4096 = fullS (L i) := rfl
      rw [hfd] at HRD
      have hrd : (L i).2.1 % 8192 / 512 * 512 % (fullS (L i) + 512) = rawS (L i) := rfl
      have hrr : (L i).2.2 % 8 = rightS (L i) := rfl
      have x0 := HO.out.row p (by omega)
      have x1 := HO.out.row (p + 1) (by omega)
      rw [Nat.zero_add] at x0 x1
      have z0 := (HO.out.wr p (by have := HO.out.len; omega)).2
      have z1 := (HO.out.wr (p + 1) (by have := HO.out.len; omega)).2
      have uw : ∀ x : Int, 0 ≤ x → x ≤ 1000000 → IntKind.u64.wrap x = x := fun x h0 h1 => by rw [IntKind.wrap_u64]; omega
      have wv := uw (vS (L i)) (by omega) (by omega)
      have wr' := uw (rvaS L i) (by omega) (by omega)
      have ww := uw (rawS (L i)) (by omega) (by omega)
      have wa := uw (atS L i) (by omega) (by omega)
      have wg := uw (rightS (L i)) (by omega) (by omega)
      have wi : IntKind.u8.wrap (48 + (i : Int)) = 48 + i := by rw [IntKind.wrap_u8]; omega
      obtain ⟨R, hR⟩ : ∃ R : Nat, rawS (L i) = R := ⟨(rawS (L i)).toNat, by omega⟩
      have HRR := Lib.hid hR
      clear uw hpn
      go_wp2_with (go_fit (HRD.out _); rintro e w' ⟨rfl, rfl⟩)
      have HQ0 := Lib.hid ((HO.out.set p 115 (by omega) (by omega) (by omega)).set (p + 1) (48 + (i : Int)) (by omega) (by omega) (by omega))
      have HB0 := Lib.hid ((HB.out.setCell (p := ⟨g, p, none⟩) HO.out.le (.int .u8 115)).setCell (p := ⟨g, p + 1, none⟩) HO.out.le (.int .u8 (48 + (i : Int))))
      clear HO HB x0 x1 z0 z1
      refine (put_at w.heap.size _ _ _ _ _ _ (p + 8) 4 (vS (L i)) _ HQ0.out HB0.out.size (by omega) rfl (by omega) (by omega) (by omega) (by omega) (by omega) (by omega)).mono ?_
      rintro e v1 ⟨h1, k1, rfl, ho, hb⟩
      have HQ1 := Lib.hid ho
      have HB1 := Lib.hid (HB0.out.trans (hb.mono HB0.out.size))
      clear ho hb HQ0 HB0
      go_wp2_with fail
      refine (put_at w.heap.size _ _ _ _ _ _ (p + 12) 4 (rvaS L i) _ HQ1.out HB1.out.size (by omega) rfl (by omega) (by omega) (by omega) (by omega) (by omega) (by omega)).mono ?_
      rintro e v2 ⟨h2, k2, rfl, ho, hb⟩
      have HQ2 := Lib.hid ho
      have HB2 := Lib.hid (HB1.out.trans (hb.mono HB1.out.size))
      clear ho hb HQ1 HB1
      go_wp2_with fail
      refine (put_at w.heap.size _ _ _ _ _ _ (p + 16) 4 (R : Int) _ HQ2.out HB2.out.size (by omega) rfl (by omega) (by omega) (by omega) (by omega) (by omega) (by omega)).mono ?_
      rintro e v3 ⟨h3, k3, rfl, ho, hb⟩
      have HQ3 := Lib.hid ho
      have HB3 := Lib.hid (HB2.out.trans (hb.mono HB2.out.size))
      clear ho hb HQ2 HB2
      go_wp2_with fail
      refine (put_at w.heap.size _ _ _ _ _ _ (p + 20) 4 ((atS L i : Nat) : Int) _ HQ3.out HB3.out.size (by omega) rfl (by omega) (by omega) (by omega) (by omega) (by omega) (by omega)).mono ?_
      rintro e v4 ⟨h4, k4, rfl, ho, hb⟩
      have HQ4 := Lib.hid ho
      have HB4 := Lib.hid (HB3.out.trans (hb.mono HB3.out.size))
      clear ho hb HQ3 HB3
      have e2 : v4.cell? ⟨b, off + i * 3 + 2, none⟩ = some (.int .i64 (L i).2.2) := (HB4.out.cell (p := ⟨b, _, none⟩) HBLT.out).trans (HCLI.out 2 _ rfl)
      clear d0 d1 d2
      go_wp2_with fail
      refine (put_at w.heap.size _ _ _ _ _ _ (p + 36) 4 (rightS (L i) * 536870912) _ HQ4.out HB4.out.size (by omega) rfl (by omega) (by omega) (by omega) (by omega) (by omega) (by omega)).mono ?_
      rintro e v5 ⟨h5, k5, rfl, ho, hb⟩
      have HQ5 := Lib.hid ho
      have HB5 := Lib.hid (HB4.out.trans (hb.mono HB4.out.size))
      clear ho hb HQ4 HB4
      clear e2
      go_wp2_with (at_make; refine wpList_makeC rfl _ _ rfl w.heap.size .i64 .i64 R rfl rfl (by omega) HB5.out.size ?_; intro v6 ho hb hs)
      have HM := Lib.hid ho
      have HQ6 := Lib.hid (HQ5.out.below hb)
      have HB6 := Lib.hid (HB5.out.trans (hb.mono HB5.out.size))
      have HNE : Hid (h5 ≠ v5.heap.size) := Lib.hid (by have := HQ5.out.lt; omega)
      clear ho hb hs HQ5 HB5
      generalize v5.heap.size = gm at *
      go_loopw [14] (fun o14 wr => ∃ k : Nat, k ≤ R ∧ o14 = .int .i64 k ∧ OwnC wr w.heap.size gm R R (fun q => if q < k then (7 * (q : Int) + i + 1) % 256 else 0) ∧ OwnC wr w.heap.size h5 (atS L i) k5 (putI (putI (putI (putI (putI (setF (setF F p 115) (p + 1) (48 + i)) (p + 8) (vS (L i)) 4) (p + 12) (rvaS L i) 4) (p + 16) (R : Int) 4) (p + 20) (atS L i) 4) (p + 36) (rightS (L i) * 536870912) 4) ∧ Below w.heap.size w wr) (fun o14 _ => R - (intOf o14).toNat)
      case atStart => exact ⟨0, by omega, rfl, HM.out.congr (fun q => by simp) (fun q _ => by simp), HQ6.out, HB6.out⟩
      case round =>
        obtain ⟨k, hk, rfl, ho, hq, hb⟩ := hrel
        have HM := Lib.hid ho
        have HQ := Lib.hid hq
        have HB := Lib.hid hb
        clear ho hq hb
        by_cases hkl : k < R
        · have hkl' : (k : Int) < R := by omega
          have x0 := HM.out.row k hkl
          rw [Nat.zero_add] at x0
          have z0 := (HM.out.wr k hkl).2
          have wk : IntKind.u8.wrap ((k : Int) * 7 + i + 1) = (7 * (k : Int) + i + 1) % 256 := by rw [IntKind.wrap_u8]; omega
          have hRb : R < 8192 := by omega
          go_wp2_with fail
          go_roundw
          case rel => exact ⟨k + 1, by omega, by go_num, (HM.out.set k ((7 * (k : Int) + i + 1) % 256) hkl (by omega) (by omega)).congr (fun q => by split <;> omega) (fun q hq => by
            unfold setF
            by_cases e : q = k
            · subst e; simp
            · rw [if_neg e]
              show (if q < k then (7 * (q : Int) + i + 1) % 256 else 0) = _
              by_cases e2 : q < k
              · rw [if_pos e2, if_pos (by omega)]
              · rw [if_neg e2, if_neg (by omega)]), HQ.out.of_block (by simp) (heap_setCell_other _ _ _ _ HNE.out), HB.out.setCell HM.out.le _⟩
          case measure => simp [intOf]; omega
        · obtain rfl : k = R := by omega
          go_wp2_with (at_builtin; refine wpList_appC rfl _ _ rfl HQ.out (.inr ⟨gm, 0, rfl, HM.out.lt, HM.out.row⟩) HM.out.by255 (by omega) HB.out.size rfl rfl ?_; intro g' cap' w' ho hb)
          have hsum : rvaS L (i + 1) = rvaS L i + fullS (L i) := rfl
          have hatn : atS L (i + 1) = atS L i + k := by simp only [atS]; rw [HRR.out]; rfl
          go_roundw
          case rel =>
            refine ⟨i + 1, g', cap', _, by omega, by rw [hatn], by rw [hsum], by go_num, by rw [hatn]; exact ho, ?_, HB.out.trans hb⟩
            have hn := HF.out.next (by omega) (fun q => if q < k then (7 * (q : Int) + i + 1) % 256 else 0) (fun q hq => if_pos (by rw [HRR.out] at hq; omega))
            unfold secF at hn
            rw [← HPN.out, HRR.out] at hn
            exact hn
          case measure => simp [intOf]; omega
    · obtain rfl : i = N := by omega
      have wr' : IntKind.u64.wrap (rvaS L i) = rvaS L i := by
        have := rvaS_bd L i
        rw [IntKind.wrap_u64]; omega
      have hrv := rvaS_bd L i
      have hat := atS_bd L i
      go_wp2_with fail
      refine (put_at w.heap.size _ _ _ _ _ _ 144 4 (rvaS L i) _ HO.out HB.out.size rfl rfl (by omega) (by omega) (by omega) (by omega) (by omega) (by omega)).mono ?_
      rintro e w' ⟨g', c', rfl, ho, hb⟩
      have HO2 := Lib.hid ho
      have HB2 := Lib.hid (HB.out.trans (hb.mono HB.out.size))
      clear ho hb HO HB
      go_wp2_with fail
      go_loopw [6, 15] (fun o6 o15 wr => wr = w' ∧ o15 = .int .i64 0 ∧ o6 = .slice (some ⟨g', 0, none⟩) (atS L i) c') (fun _ _ _ => 0)
      case atStart => exact ⟨rfl, rfl, rfl⟩
      case round =>
        obtain ⟨rfl, rfl, rfl⟩ := hrel
        go_wp2_with fail
        go_ret
        rw [HNN.out]
        exact ⟨g', c', _, rfl, HO2.out, HF.out.done hN2, HB2.out⟩
end Go.Proofs.YtplgdpjbkdagfaaGreat
