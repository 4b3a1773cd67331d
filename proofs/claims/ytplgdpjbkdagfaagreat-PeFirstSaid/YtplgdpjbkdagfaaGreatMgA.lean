/- append onto a row of the call's own, one cell an element, from whatever source: over any program. · Plain lemmas on rows of bytes and the numbers in them; the contracts of package le's readers of numbers. · Plain lemmas on memory: rows of the call's own, what else stays. · The contracts of package le's Bytes, Put and Text. · The contract of the closed call that each law of layer 1 ends with. · Plain lemmas on masks. · A slice of bytes that came in: what the walk is told of it. · append of bytes onto a row of the call's own. · 'x[lo:]' of bytes, and the text of it. · Plain lemmas: bytes behind a store, what lay stays, texts of bytes. · package row; slices of elements of several cells each. · Round, of package hdr and the document's. -/
import Derived.Maps.AppendAt
import Derived.Deep.AppendLies
import Derived.Deep.AppendSrc
import Derived.Deep.OwnRows
import Derived.Deep.Upon
import Derived.Lib.LazyBuf
import Derived.OwnWalk
import Derived.Test.YtplgdpjbkdagfaaGreatRows
import Derived.WalkKit
import Derived.ProofKit
import Derived.OpenShut
import Derived.ShutString
import Derived.ChangeOld
import Derived.Below
import Derived.Lib.Hide
import Derived.Outline
import Derived.IntWalk
import Derived.Laws.BitsAllLaws
import Derived.Handy
import Derived.Lib.SmallJoins
import Derived.Laws.BitsLemmas
import Derived.PlainAid
import Derived.Deep.QuietTactic
import Derived.BigQuiet
namespace Go.Proofs.YtplgdpjbkdagfaaGreat
set_option maxRecDepth 100000
open Go.RowKit
set_option linter.unusedVariables false
set_option linter.unusedSimpArgs false

section
variable {P : Program} (w : World)

theorem run_app_src (base : Nat) (t tx ty e : TypeId) (i : TypeInfo) (z : Value) (bytes : Nat) (ht : P.underlying t = some (.slice e)) (hi : P.info? e = some i) (hz : i.zero = some z)
    (hsize : i.size = 1) (hby : i.bytes = bytes) (hzs : z.cells.size = 1)
    (v : Value) (n : Nat) (xs : List Value) (hown : w.ownsRow base e 1 v n xs) (x : Value) (m : Nat) (news : List Value) (hs : Src P 1 tx x m news w)
    (h63 : n + m ≤ maxLen) (hbytes : (n + m) * bytes ≤ 140737488355328) (hbase : base ≤ w.heap.size) :
    ∃ v' w', (Builtin.append_ #[t, tx] ty #[v, x]).run P w = .ok v' w' ∧ w'.ownsRow base e 1 v' (n + m) (xs ++ news) ∧ w.grownBy w' v.ownBlock ∧
      (v' = .slice none 0 0 ↔ v = .slice none 0 0 ∧ m = 0) ∧ (v'.ownBlock = v.ownBlock ∨ v'.ownBlock = some w.heap.size) := by
  subst hby
  have hs' : Src P i.size tx x m news w := by rw [hsize]; exact hs
  have hsmall : n + m ≤ 9223372036854775807 := by simp only [maxLen] at h63; omega
  have hnl : news.length = m := by rw [hs.newsLen, Nat.mul_one]
  have hxl : xs.length = n := by rw [hown.1, Nat.mul_one]
  have hlen : (xs ++ news).length = (n + m) * 1 := by rw [List.length_append, hxl, hnl, Nat.mul_one]
  have grown : ∀ (old : Nat), old < n + m → ∀ (row : Option Nat),
      (w.drew.alloc (.cells ((xs ++ news).toArray ++ Builtin.zeroCells z.cells (grownCap w (n + m) old e - (n + m))) e)).ownsRow base e 1
        (.slice (some ⟨w.heap.size, 0, none⟩) (n + m) (grownCap w (n + m) old e)) (n + m) (xs ++ news) ∧
      w.grownBy (w.drew.alloc (.cells ((xs ++ news).toArray ++ Builtin.zeroCells z.cells (grownCap w (n + m) old e - (n + m))) e)) row := by
    intro old ho row
    have hge := grownCap_ge w (n + m) old e
    have hcm : grownCap w (n + m) old e ≤ maxLen := grownCap_le_maxLen w (n + m) old e h63
    refine ⟨⟨hlen, .inr ⟨w.heap.size, _, _, rfl, hbase, heap_alloc_new w.drew _, hge, hcm, ?_, ?_⟩⟩, ⟨rfl, rfl, rfl, by simp, fun k hk _ => heap_alloc_old w.drew _ k hk⟩⟩
    · simp only [Array.size_append, List.size_toArray, size_zeroCells, hzs, List.length_append, hxl, hnl]
      omega
    · simp only [Array.toList_append]
      rw [← hlen]
      exact List.take_left
  rcases hown.2 with ⟨rfl, rfl⟩ | ⟨g, cap, cur, rfl, hbg, hg, hnc, hcm, hcs, htake⟩
  · have hx : xs = [] := List.eq_nil_of_length_eq_zero hxl
    subst hx
    by_cases hm : m = 0
    · subst hm
      have hn : news = [] := List.eq_nil_of_length_eq_zero hnl
      subst hn
      refine ⟨.slice none 0 0, w, ?_, World.ownsRow_nil w base e 1, ⟨rfl, rfl, rfl, Nat.le_refl _, fun _ _ _ => rfl⟩, by simp, Or.inl rfl⟩
      rw [run_append_nothing w t tx ty e i ht hi none 0 0 (Nat.le_refl _) x hs']
    · have hr := run_append_grow_src (P := P) w t tx ty e i z ht hi hz none 0 0 [] (by simp [Builtin.firstCells]) x m news hs' (by omega) (by omega) (growslice_fits (by omega) hbytes)
      have hgr := grown 0 (by omega) (Value.ownBlock (.slice none 0 0))
      exact ⟨_, _, hr, hgr.1, hgr.2, by simp [hm], Or.inr rfl⟩
  · have holds : ∀ j u, xs[j]? = some u → w.cell? ((⟨g, 0, none⟩ : Addr).add j) = some u := hown.cells (g := g) rfl
    by_cases hroom : n + m ≤ cap
    · have hrow : w.rowIs g e cap (fun j => cur[j]?.getD default) := ⟨cur, hg, by omega, fun j hj => by show cur[j]? = some (cur[j]?.getD default); rw [Array.getElem?_eq_getElem (by omega)]; rfl⟩
      have hr := run_append_room_src (P := P) w t tx ty e i ht hi g 0 n cap x m news hs' hroom
        (fun j hj => by rw [hsize, Nat.mul_one, Nat.zero_add, hrow.cell (by omega)]; rfl) (fun j hj => by rw [hsize, Nat.mul_one, Nat.zero_add]; exact hrow.frozen _)
      rw [hsize, Nat.mul_one, Nat.zero_add] at hr
      have hrow2 := rowIs_setCells (b := g) news n w _ hrow
      obtain ⟨c, hb, hn, hc⟩ := hrow2
      refine ⟨_, _, hr, ⟨hlen, .inr ⟨g, cap, c, rfl, hbg, hb, hroom, hcm, by omega, ?_⟩⟩, ⟨?_, ?_, ?_, ?_, ?_⟩, by simp, Or.inl rfl⟩
      · apply List.ext_getElem?
        intro j
        rcases Nat.lt_or_ge j (n + m) with hj | hj
        · rw [List.getElem?_take_of_lt (by omega), Array.getElem?_toList, hc j (by omega)]
          show some (if n ≤ j ∧ j < n + news.length then news[j - n]?.getD default else cur[j]?.getD default) = _
          rcases Nat.lt_or_ge j n with h1 | h1
          · rw [if_neg (by omega), List.getElem?_append_left (by omega)]
            have h2 : xs[j]? = cur[j]? := by rw [← htake, List.getElem?_take_of_lt (by omega), Array.getElem?_toList]
            rw [h2, Array.getElem?_eq_getElem (by omega)]; rfl
          · rw [if_pos (by omega), List.getElem?_append_right (by omega), hxl, List.getElem?_eq_getElem (by omega)]; rfl
        · rw [List.getElem?_eq_none (by rw [List.length_take]; omega), List.getElem?_eq_none (by rw [List.length_append]; omega)]
      · exact World.os_setCells w g n news
      · exact (below_setCells (Nat.zero_le g) news n w (Below.refl 0 w)).tape
      · exact World.output_setCells w g n news
      · exact (below_setCells (Nat.zero_le g) news n w (Below.refl 0 w)).size
      · intro k hk hne
        exact World.heap_setCells_other w g n news hk (fun e => hne (by rw [e]; rfl))
    · have hr := run_append_grow_src (P := P) w t tx ty e i z ht hi hz (some ⟨g, 0, none⟩) n cap xs (by rw [hsize]; exact run_firstCells_some w.drew 1 n ⟨g, 0, none⟩ n cap xs hown.1 (by simpa using holds)) x m news hs' (by omega) (by omega) (growslice_fits (by omega) hbytes)
      have hgr := grown cap (by omega) (Value.ownBlock (.slice (some ⟨g, 0, none⟩) n cap))
      exact ⟨_, _, hr, hgr.1, hgr.2, by simp, Or.inr rfl⟩

/-- The same at the list of a plain region's operations. -/
theorem wpList_app_src {ops : Array Oper} {rest : List Oper} {o : Oper} {a : Act} {Q : Exit → Act → World → Prop} (hgd : o.guard = none) (s x : Operand) (t tx : TypeId)
    (ho : o.op = .call { callee := .builtin .append, args := #[s, x], argTypes := #[t, tx] })
    (base : Nat) (e : TypeId) (i : TypeInfo) (z : Value) (bytes : Nat) (ht : P.underlying t = some (.slice e)) (hi : P.info? e = some i) (hz : i.zero = some z)
    (hsize : i.size = 1) (hby : i.bytes = bytes) (hzs : z.cells.size = 1)
    (v : Value) (n : Nat) (xs : List Value) (hv : a.eval s = v) (hown : w.ownsRow base e 1 v n xs) (X : Value) (hX : a.eval x = X) (m : Nat) (news : List Value) (hs : Src P 1 tx X m news w)
    (h63 : n + m ≤ maxLen) (hbytes : (n + m) * bytes ≤ 140737488355328) (hbase : base ≤ w.heap.size)
    (h : ∀ v' w', w'.ownsRow base e 1 v' (n + m) (xs ++ news) → w.grownBy w' v.ownBlock → (v' = .slice none 0 0 ↔ v = .slice none 0 0 ∧ m = 0) → (v'.ownBlock = v.ownBlock ∨ v'.ownBlock = some w.heap.size) → wpList P ops Q rest (a.put o.dst v') w') :
    wpList P ops Q (o :: rest) a w := by
  refine wpList_plain hgd fun K hK => ?_
  obtain ⟨v', w', hr, h2, h3, h4, h5⟩ := run_app_src (P := P) w base t tx o.type e i z bytes ht hi hz hsize hby hzs v n xs hown X m news hs h63 hbytes hbase
  unfold Oper.wp execOp
  simp only [ho, resolve, invoke, builtin, Sem.run_bind, Sem.run_pure, Result.andThen_ok, List.map_toArray, List.map_cons, List.map_nil, hv, hX, hr]
  exact hK _ _ (h v' w' h2 h3 h4 h5)
end
end Go.Proofs.YtplgdpjbkdagfaaGreat
namespace Go.Proofs.YtplgdpjbkdagfaaGreat
set_option maxRecDepth 100000
open Go.ChangeShapes Go.WideShapes Go.ChangeAt Go.RowKit
open Go.ChangeMaps (open_string shut_string)
set_option linter.unusedVariables false
set_option linter.unusedSimpArgs false

theorem ret_bool {a b : Bool} (h : a = b) : Ending.returned (.bool a) = .returned (.bool b) := by rw [h]

theorem ret_num {k k' : IntKind} {a b a' b' : Int} {x y : Bool} (h : a = b) (h2 : x = y) (_ : k = k') (_ : a' = b') :
    Ending.returned (.tuple #[.int k a, .bool x]) = .returned (.tuple #[.int k b, .bool y]) := by rw [h, h2]

/-- The number that n bytes of f from place o on make, the lowest first. -/
def rdF (f : Nat → Int) (o : Nat) : Nat → Int
  | 0 => 0
  | n + 1 => f o + 256 * rdF f (o + 1) n

/-- Every element is a byte. -/
def Bytes255 (f : Nat → Int) : Prop := ∀ i, 0 ≤ f i ∧ f i ≤ 255

theorem rdF_bd (f : Nat → Int) (h : Bytes255 f) (n : Nat) : ∀ o, 0 ≤ rdF f o n ∧ rdF f o n < 256 ^ n := by
  induction n with
  | zero => intro o; simp [rdF]
  | succ n ih =>
    intro o
    have h1 := h o
    have h2 := ih (o + 1)
    simp only [rdF]
    rw [Int.pow_succ]
    omega

/-- The row of len bytes f that lies in block b from off on. -/
def Row (w : World) (b off len : Nat) (f : Nat → Int) : Prop := ∀ i, i < len → w.cell? ⟨b, off + i, none⟩ = some (.int .u8 (f i))

theorem rdF_add (f : Nat → Int) (m n : Nat) : ∀ o, rdF f o (m + n) = rdF f o m + 256 ^ m * rdF f (o + m) n := by
  induction m with
  | zero => intro o; simp [rdF]
  | succ m ih =>
    intro o
    rw [show m + 1 + n = (m + n) + 1 from by omega]
    simp only [rdF]
    rw [ih, show o + 1 + m = o + (m + 1) from by omega, Int.pow_succ]
    rw [show (256 : Int) ^ m * 256 = 256 * 256 ^ m from Int.mul_comm _ _, Int.mul_add, Int.mul_assoc, Int.add_assoc]

theorem pow256_le {k n : Nat} (h : k ≤ n) : (256 : Int) ^ k ≤ 256 ^ n := by
  obtain ⟨d, rfl⟩ := Nat.exists_eq_add_of_le h
  have h1 : (1 : Int) ≤ 256 ^ d := by
    have := Int.pow_pos (n := 256) (m := d) (by omega); omega
  have h2 : (0 : Int) ≤ 256 ^ k := by have := Int.pow_pos (n := 256) (m := k) (by omega); omega
  rw [Int.pow_add]
  have := Int.mul_le_mul_of_nonneg_left h1 h2
  simpa using this

/-- 'v << 8 | c'. -/
theorem shl8_or {v c : Int} (h0 : 0 ≤ v) (h1 : v < 72057594037927936) (c0 : 0 ≤ c) (c1 : c ≤ 255) :
    bits BinOp.or IntKind.u64 (v * 256) c = c + 256 * v := by
  rw [u64_or _ _ (by omega) (by omega) (by omega) (by omega)]
  obtain ⟨x, rfl⟩ := Int.eq_ofNat_of_zero_le h0
  obtain ⟨y, rfl⟩ := Int.eq_ofNat_of_zero_le c0
  have e1 : ((x : Int) * 256).toNat = 2 ^ 8 * x := by omega
  have e2 : ((y : Int)).toNat = y := by omega
  rw [e1, e2]
  rw [← Nat.two_pow_add_eq_or_of_lt (show y < 2 ^ 8 by omega)]
  omega

theorem lies_yes (a : Option Addr) (len cap : Nat) (at' n : Int) (w : World) (h0 : len ≤ 9223372036854775807) (h1 : 0 ≤ n) (h2 : n ≤ 8) (h : 0 ≤ at') (h' : at' ≤ len - n) :
    Calls Tryz.prog 142 #[.slice a len cap, .int .i64 at', .int .i64 n] w fun e w' => e = .returned (.bool true) ∧ w = w' := by
  go_enter Tryz.func142, Tryz.ntmps142
  go_wp2
  go_ret
  exact ⟨rfl, rfl⟩

theorem lies_no (a : Option Addr) (len cap : Nat) (at' n : Int) (w : World) (h0 : len ≤ 9223372036854775807) (h1 : 0 ≤ n) (h2 : n ≤ 8) (h : ¬ (0 ≤ at' ∧ at' ≤ len - n)) :
    Calls Tryz.prog 142 #[.slice a len cap, .int .i64 at', .int .i64 n] w fun e w' => e = .returned (.bool false) ∧ w = w' := by
  by_cases h3 : 0 ≤ at'
  · have h4 : ¬ at' ≤ len - n := by omega
    go_enter Tryz.func142, Tryz.ntmps142
    go_wp2
    go_ret
    exact ⟨rfl, rfl⟩
  · go_enter Tryz.func142, Tryz.ntmps142
    go_wp2
    go_ret
    exact ⟨rfl, rfl⟩

theorem number_no (a : Option Addr) (len cap : Nat) (at' n : Int) (w : World) (h0 : len ≤ 9223372036854775807) (h1 : 0 ≤ n) (h2 : n ≤ 8) (h : ¬ (0 ≤ at' ∧ at' ≤ len - n)) :
    Calls Tryz.prog 130 #[.slice a len cap, .int .i64 at', .int .i64 n] w fun e w' => e = .returned (.tuple #[.int .u64 0, .bool false]) ∧ w = w' := by
  go_enter Tryz.func130, Tryz.ntmps130
  go_wp2_with (go_at_call 142; refine (lies_no _ _ _ _ _ _ h0 h1 h2 h).mono ?_; rintro e w' ⟨rfl, rfl⟩)
  go_ret2
  exact ⟨rfl, rfl⟩

theorem number_yes (b off len cap : Nat) (f : Nat → Int) (o n : Nat) (w : World) (h0 : len ≤ 9223372036854775807) (h2 : n ≤ 8) (h : o + n ≤ len) (hb : Bytes255 f)
    (hc : Row w b off len f) :
    Calls Tryz.prog 130 #[.slice (some ⟨b, off, none⟩) len cap, .int .i64 o, .int .i64 n] w fun e w' => e = .returned (.tuple #[.int .u64 (rdF f o n), .bool true]) ∧ w = w' := by
  go_enter Tryz.func130, Tryz.ntmps130
  go_wp2_with (go_at_call 142; refine (lies_yes _ _ _ _ _ _ h0 (by omega) (by omega) (by omega) (by omega)).mono ?_; rintro e w' ⟨rfl, rfl⟩)
  go_loop [8, 9] (fun v i => ∃ k : Nat, k ≤ n ∧ i = .int .i64 ((n : Int) - 1 - k) ∧ v = .int .u64 (rdF f (o + (n - k)) k)) (fun _ i => (intOf i + 1).toNat)
  case atStart => exact ⟨0, by omega, by simp, by simp [rdF]⟩
  case round =>
    obtain ⟨k, hk, rfl, rfl⟩ := hrel
    by_cases hlt : k < n
    · have hcell := hc (o + (n - 1 - k)) (by omega)
      have h3 := rdF_bd f hb k (o + (n - k))
      have h4 := pow256_le (show k ≤ 7 by omega)
      have h5 := hb (o + (n - 1 - k))
      have H : Hid (rdF f (o + (n - (k + 1))) (k + 1) = f (o + (n - 1 - k)) + 256 * rdF f (o + (n - k)) k) := by
        have e1 : n - (k + 1) = n - 1 - k := by omega
        have e2 : o + (n - 1 - k) + 1 = o + (n - k) := by omega
        rw [e1, rdF, e2]; exact rfl
      go_wp2
      go_round
      case rel =>
        refine ⟨k + 1, by omega, by go_num, ?_⟩
        rw [H.out, shl8_or h3.1 (by omega) h5.1 h5.2]
      case measure => simp [intOf]; omega
    · obtain rfl : k = n := by omega
      go_wp2
      go_ret2
      exact ⟨by simp, rfl⟩

theorem u16_no (a : Option Addr) (len cap : Nat) (at' : Int) (w : World) (h0 : len ≤ 9223372036854775807) (h : ¬ (0 ≤ at' ∧ at' ≤ len - 2)) :
    Calls Tryz.prog 104 #[.slice a len cap, .int .i64 at'] w fun e w' => e = .returned (.tuple #[.int .i64 0, .bool false]) ∧ w = w' := by
  go_enter Tryz.func104, Tryz.ntmps104
  go_wp2_with (go_at_call 130; refine (number_no _ _ _ _ _ _ h0 (by omega) (by omega) h).mono ?_; rintro e w' ⟨rfl, rfl⟩)
  go_ret2
  exact ⟨rfl, rfl⟩

theorem u32_no (a : Option Addr) (len cap : Nat) (at' : Int) (w : World) (h0 : len ≤ 9223372036854775807) (h : ¬ (0 ≤ at' ∧ at' ≤ len - 4)) :
    Calls Tryz.prog 129 #[.slice a len cap, .int .i64 at'] w fun e w' => e = .returned (.tuple #[.int .i64 0, .bool false]) ∧ w = w' := by
  go_enter Tryz.func129, Tryz.ntmps129
  go_wp2_with (go_at_call 130; refine (number_no _ _ _ _ _ _ h0 (by omega) (by omega) h).mono ?_; rintro e w' ⟨rfl, rfl⟩)
  go_ret2
  exact ⟨rfl, rfl⟩

theorem u64_no (a : Option Addr) (len cap : Nat) (at' : Int) (w : World) (h0 : len ≤ 9223372036854775807) (h : ¬ (0 ≤ at' ∧ at' ≤ len - 8)) :
    Calls Tryz.prog 103 #[.slice a len cap, .int .i64 at'] w fun e w' => e = .returned (.tuple #[.int .u64 0, .bool false]) ∧ w = w' := by
  go_enter Tryz.func103, Tryz.ntmps103
  go_wp2_with (go_at_call 130; refine (number_no _ _ _ _ _ _ h0 (by omega) (by omega) h).mono ?_; rintro e w' ⟨rfl, rfl⟩)
  go_ret2
  exact ⟨rfl, rfl⟩

theorem u16_yes (b off len cap : Nat) (f : Nat → Int) (o : Nat) (w : World) (h0 : len ≤ 9223372036854775807) (h : o + 2 ≤ len) (hb : Bytes255 f)
    (hc : Row w b off len f) :
    Calls Tryz.prog 104 #[.slice (some ⟨b, off, none⟩) len cap, .int .i64 o] w fun e w' => e = .returned (.tuple #[.int .i64 (rdF f o 2), .bool true]) ∧ w = w' := by
  have hbd := rdF_bd f hb 2 o
  go_enter Tryz.func104, Tryz.ntmps104
  go_wp2_with (go_at_call 130; refine (number_yes _ _ _ _ f o 2 _ h0 (by omega) h hb hc).mono ?_; rintro e w' ⟨rfl, rfl⟩)
  go_ret2
  exact ⟨rfl, rfl⟩

theorem u32_yes (b off len cap : Nat) (f : Nat → Int) (o : Nat) (w : World) (h0 : len ≤ 9223372036854775807) (h : o + 4 ≤ len) (hb : Bytes255 f)
    (hc : Row w b off len f) :
    Calls Tryz.prog 129 #[.slice (some ⟨b, off, none⟩) len cap, .int .i64 o] w fun e w' => e = .returned (.tuple #[.int .i64 (rdF f o 4), .bool true]) ∧ w = w' := by
  have hbd := rdF_bd f hb 4 o
  go_enter Tryz.func129, Tryz.ntmps129
  go_wp2_with (go_at_call 130; refine (number_yes _ _ _ _ f o 4 _ h0 (by omega) h hb hc).mono ?_; rintro e w' ⟨rfl, rfl⟩)
  go_ret2
  exact ⟨rfl, rfl⟩

theorem u64_yes (b off len cap : Nat) (f : Nat → Int) (o : Nat) (w : World) (h0 : len ≤ 9223372036854775807) (h : o + 8 ≤ len) (hb : Bytes255 f)
    (hc : Row w b off len f) :
    Calls Tryz.prog 103 #[.slice (some ⟨b, off, none⟩) len cap, .int .i64 o] w fun e w' => e = .returned (.tuple #[.int .u64 (rdF f o 8), .bool true]) ∧ w = w' := by
  have hbd := rdF_bd f hb 8 o
  go_enter Tryz.func103, Tryz.ntmps103
  go_wp2_with (go_at_call 130; refine (number_yes _ _ _ _ f o 8 _ h0 (by omega) h hb hc).mono ?_; rintro e w' ⟨rfl, rfl⟩)
  go_ret2
  exact ⟨rfl, rfl⟩
end Go.Proofs.YtplgdpjbkdagfaaGreat
namespace Go.Proofs.YtplgdpjbkdagfaaGreat
set_option maxRecDepth 100000
open Go.ChangeShapes Go.WideShapes Go.ChangeAt Go.RowKit
open Go.ChangeMaps (open_string shut_string)
set_option linter.unusedVariables false
set_option linter.unusedSimpArgs false

/-- Block g holds n cells f, none of them frozen. -/
def Own (w : World) (g n : Nat) (f : Nat → Value) : Prop := g < w.heap.size ∧ ∀ i, i < n → w.cell? ⟨g, i, none⟩ = some (f i) ∧ w.frozen? ⟨g, i, none⟩ = false

namespace Own
variable {w w' : World} {g n : Nat} {f f' : Nat → Value}
theorem cell (h : Own w g n f) {i : Nat} (hi : i < n) : w.cell? ⟨g, i, none⟩ = some (f i) := (h.2 i hi).1
theorem frozen (h : Own w g n f) {i : Nat} (hi : i < n) : w.frozen? ⟨g, i, none⟩ = false := (h.2 i hi).2
theorem congr (h : Own w g n f) (e : ∀ i, i < n → f i = f' i) : Own w g n f' := ⟨h.1, fun i hi => by rw [← e i hi]; exact h.2 i hi⟩
theorem of_block (h : Own w g n f) (e : w'.heap[g]? = w.heap[g]?) (hs : w.heap.size ≤ w'.heap.size) : Own w' g n f :=
  ⟨Nat.lt_of_lt_of_le h.1 hs, fun i hi => ⟨(World.cell?_of_block (a := ⟨g, i, none⟩) e).trans (h.2 i hi).1, (World.frozen?_of_block (a := ⟨g, i, none⟩) e).trans (h.2 i hi).2⟩⟩
theorem below {B : Nat} (h : Own w g n f) (hb : Below B w w') (hg : g < B) : Own w' g n f := h.of_block (hb.block g hg) hb.size
theorem grown {row : Option Nat} (h : Own w g n f) (hb : w.grownBy w' row) (hg : some g ≠ row) : Own w' g n f := h.of_block (hb.block g h.1 hg) hb.size
theorem of_row {t : TypeId} (h : w.rowIs g t n f) : Own w g n f := ⟨h.lt, fun i hi => ⟨h.cell hi, h.frozen i⟩⟩
theorem less {m : Nat} (h : Own w g n f) (hm : m ≤ n) : Own w g m f := ⟨h.1, fun i hi => h.2 i (by omega)⟩
theorem alloc (h : Own w g n f) (o : Obj) : Own (w.alloc o) g n f := h.of_block (Below.heap_alloc w o g h.1) (by simp)
theorem drew (h : Own w g n f) : Own w.drew g n f := h
theorem set (h : Own w g n f) {i : Nat} (hi : i < n) (v : Value) : Own (w.setCell ⟨g, i, none⟩ v) g n (fun j => if j = i then v else f j) := by
  refine ⟨by simpa [World.setCell] using h.1, fun j hj => ⟨?_, ?_⟩⟩
  · by_cases e : j = i
    · subst e
      show _ = some (if j = j then v else f j)
      rw [if_pos rfl]
      exact World.cell?_setCell_same w _ v (h.cell hj)
    · show _ = some (if j = i then v else f j)
      rw [if_neg e]
      rw [World.cell?_setCell_other w _ _ v (fun e' => e (by injection e' with _ e'; exact e'.symm))]
      exact h.cell hj
  · rw [World.frozen?_setCell]; exact h.frozen hj
theorem of_own {base : Nat} {e : TypeId} {c : Nat} {A : Option Addr} {n : Nat} {xs : List Value} (h : w.ownsRow base e 1 (.slice A n c) n xs) (hn : 0 < n) (hx : ∀ i, i < n → xs[i]? = some (f i)) :
    ∃ g, A = some ⟨g, 0, none⟩ ∧ base ≤ g ∧ Own w g n f := by
  obtain ⟨g, cap, hv, hb, hlt⟩ := h.form hn
  have hA : A = some ⟨g, 0, none⟩ := by injection hv
  subst hA
  refine ⟨g, rfl, hb, hlt, fun i hi => ⟨?_, ?_⟩⟩
  · rw [h.cellAt i (by omega)]; exact hx i hi
  · exact h.frozenAt i
end Own

theorem only_drew {a w : World} {row : Option Nat} (h : a.grownBy w row) : a.grownBy w.drew row := ⟨h.os, h.tape, h.output, h.size, h.block⟩
theorem only_alloc {a w : World} {row : Option Nat} (h : a.grownBy w row) (o : Obj) : a.grownBy (w.alloc o) row :=
  ⟨h.os, h.tape, h.output, Nat.le_trans h.size (by simp), fun i hi hne => (Below.heap_alloc w o i (Nat.lt_of_lt_of_le hi h.size)).trans (h.block i hi hne)⟩
theorem only_setCell {a w : World} {g : Nat} (h : a.grownBy w (some g)) {p : Addr} (hp : p.block = g ∨ a.heap.size ≤ p.block) (u : Value) : a.grownBy (w.setCell p u) (some g) :=
  ⟨h.os, h.tape, h.output, by simpa [World.setCell] using h.size, fun i hi hne => (Below.heap_setCell w p u i (by
    rintro rfl
    rcases hp with hp | hp
    · exact hne (by rw [hp])
    · omega)).trans (h.block i hi hne)⟩
theorem only_below {a b w : World} {row : Option Nat} (h : a.grownBy b row) (k : Below b.heap.size b w) : a.grownBy w row :=
  ⟨k.os.trans h.os, k.tape.trans h.tape, k.output.trans h.output, Nat.le_trans h.size k.size, fun i hi hne => (k.block i (Nat.lt_of_lt_of_le hi h.size)).trans (h.block i hi hne)⟩
end Go.Proofs.YtplgdpjbkdagfaaGreat
namespace Go.Proofs.YtplgdpjbkdagfaaGreat
set_option maxRecDepth 100000
open Go.ChangeShapes Go.WideShapes Go.ChangeAt Go.RowKit
open Go.ChangeMaps (open_string shut_string)
set_option linter.unusedVariables false
set_option linter.unusedSimpArgs false

/-- Byte number i of v. -/
def byteOf (v : Int) (i : Nat) : Int := v / 2 ^ (8 * i) % 256

def leF (v : Int) (k : Nat) (j : Nat) : Value := .int .u8 (if j < k then byteOf v j else 0)

theorem leF_zero (v : Int) (j : Nat) : leF v 0 j = .int .u8 0 := by simp [leF]
theorem leF_succ (v : Int) (k j : Nat) : (if j = k then .int .u8 (byteOf v k) else leF v k j) = leF v (k + 1) j := by
  unfold leF
  by_cases h : j = k
  · subst h; simp
  · rw [if_neg h]
    by_cases h3 : j < k
    · rw [if_pos h3, if_pos (by omega)]
    · rw [if_neg h3, if_neg (by omega)]

/-- What a store of n bytes of v from place o on makes of f, when k of them are written. -/
def putF (f : Nat → Value) (o : Nat) (v : Int) (k : Nat) (j : Nat) : Value := if o ≤ j ∧ j < o + k then .int .u8 (byteOf v (j - o)) else f j
theorem putF_zero (f : Nat → Value) (o : Nat) (v : Int) (j : Nat) : putF f o v 0 j = f j := by unfold putF; rw [if_neg (by omega)]
theorem putF_succ (f : Nat → Value) (o : Nat) (v : Int) (k j : Nat) : (if j = o + k then .int .u8 (byteOf v k) else putF f o v k j) = putF f o v (k + 1) j := by
  unfold putF
  by_cases h : j = o + k
  · subst h; rw [if_pos rfl, if_pos (by omega)]; congr 2; omega
  · rw [if_neg h]
    by_cases h3 : o ≤ j ∧ j < o + k
    · rw [if_pos h3, if_pos (by omega)]
    · rw [if_neg h3, if_neg (by omega)]

theorem infoU8 : (Tryz.prog.info? 5).map (fun i => (i.zero, i.size, i.bytes)) = some (some (.int .u8 0), 1, 1) := by kernel_rfl

/-- The text of n bytes of f from place o on. -/
def strF (f : Nat → Int) (o n : Nat) : ByteArray := strOfNums ((List.range n).map fun i => f (o + i))

theorem strF_size (f : Nat → Int) (o n : Nat) : (strF f o n).size = n := by simp [strF, strOfNums_size]

theorem run_str {w : World} {b off n cap : Nat} {f : Nat → Int} (h : Row w b off n f) :
    (convert 25 9 (.slice (some ⟨b, off, none⟩) n cap)).run Tryz.prog w = .ok (.string (strF f 0 n)) w := by
  rw [run_convert_bytes_arg (P := Tryz.prog) w 25 5 Tryz.underlying25 Tryz.underlying5 b off n cap ((List.range n).map f) (by simp) (fun i hi => by rw [h i hi]; simp [hi]) 9 Tryz.underlying9]
  simp [strF]

theorem run_str_at {w : World} {b off len n o cap : Nat} {f : Nat → Int} (h : Row w b off len f) (hn : o + n ≤ len) :
    (convert 25 9 (.slice (some ⟨b, off + o, none⟩) n cap)).run Tryz.prog w = .ok (.string (strF f o n)) w := by
  rw [run_convert_bytes_arg (P := Tryz.prog) w 25 5 Tryz.underlying25 Tryz.underlying5 b (off + o) n cap ((List.range n).map fun i => f (o + i)) (by simp) (fun i hi => by rw [Nat.add_assoc, h (o + i) (by omega)]; simp [hi]) 9 Tryz.underlying9]
  rfl

theorem text_out (a : Option Addr) (len cap : Nat) (at' most : Int) (w : World) (h0 : len ≤ 9223372036854775807) (h : at' < 0 ∨ len ≤ at') :
    Calls Tryz.prog 135 #[.slice a len cap, .int .i64 at', .int .i64 most] w fun e w' => e = .returned (.tuple #[.string ByteArray.empty, .bool false]) ∧ w = w' := by
  by_cases h1 : at' < 0
  · go_enter Tryz.func135, Tryz.ntmps135
    go_wp2
    go_ret2
    exact ⟨rfl, rfl⟩
  · have h2 : (len : Int) ≤ at' := by omega
    go_enter Tryz.func135, Tryz.ntmps135
    go_wp2
    go_ret2
    exact ⟨rfl, rfl⟩

theorem text_yes (b off len cap : Nat) (f : Nat → Int) (o n : Nat) (most : Int) (w : World) (h0 : cap ≤ 9223372036854775807) (h1 : len ≤ cap) (h : o + n < len) (hm : n = 0 ∨ n ≤ most) (hz : f (o + n) = 0)
    (hnz : ∀ i, i < n → f (o + i) ≠ 0) (hc : Row w b off len f) :
    Calls Tryz.prog 135 #[.slice (some ⟨b, off, none⟩) len cap, .int .i64 o, .int .i64 most] w fun e w' => e = .returned (.tuple #[.string (strF f o n), .bool true]) ∧ w = w' := by
  have hs := fun (c : Nat) => run_str_at (n := n) (o := o) (cap := c) hc (by omega)
  have HZ := Lib.hid hz
  clear hz
  go_enter Tryz.func135, Tryz.ntmps135
  go_wp2
  go_loop [8, 9, 22] (fun _ _ i => ∃ k : Nat, k ≤ n ∧ i = .int .i64 k) (fun _ _ i => n - (intOf i).toNat)
  case atStart => exact ⟨0, by omega, rfl⟩
  case round =>
    obtain ⟨k, hk, rfl⟩ := hrel
    by_cases hlt : k < n
    · have hcell := hc (o + k) (by omega)
      have hf : (f (o + k) == 0) = false := by simpa using hnz k hlt
      rw [← Nat.add_assoc] at hcell
      have hmk : (k : Int) < most := by omega
      go_wp2
      go_round
      case rel => exact ⟨k + 1, by omega, by go_num⟩
      case measure => simp [intOf]; omega
    · obtain rfl : k = n := by omega
      have hcell := hc (o + k) (by omega)
      rw [← Nat.add_assoc] at hcell
      have hf : (f (o + k) == 0) = true := by simpa using HZ.out
      go_wp2
      go_ret2
      exact ⟨rfl, rfl⟩

theorem text_no (b off len cap : Nat) (f : Nat → Int) (o : Nat) (most : Int) (w : World) (h0 : cap ≤ 9223372036854775807) (h1 : len ≤ cap) (h : o < len) (hno : ∀ i : Nat, o + i < len → (i = 0 ∨ i ≤ most) → f (o + i) ≠ 0) (hc : Row w b off len f) :
    Calls Tryz.prog 135 #[.slice (some ⟨b, off, none⟩) len cap, .int .i64 o, .int .i64 most] w fun e w' => e = .returned (.tuple #[.string ByteArray.empty, .bool false]) ∧ w = w' := by
  go_enter Tryz.func135, Tryz.ntmps135
  go_wp2
  go_loop [8, 9, 22] (fun _ _ i => ∃ k : Nat, k ≤ len - o ∧ i = .int .i64 k ∧ (k = 0 ∨ k ≤ most)) (fun _ _ i => len - (intOf i).toNat)
  case atStart => exact ⟨0, by omega, rfl, .inl rfl⟩
  case round =>
    obtain ⟨k, hk, rfl, hkm⟩ := hrel
    by_cases hlt : k < len - o
    · have hcell := hc (o + k) (by omega)
      have hf : (f (o + k) == 0) = false := by simpa using hno k (by omega) hkm
      rw [← Nat.add_assoc] at hcell
      by_cases hmk : (k : Int) < most
      · go_wp2
        go_round
        case rel => exact ⟨k + 1, by omega, by go_num, .inr (by omega)⟩
        case measure => simp [intOf]; omega
      · go_wp2
        go_ret2
        exact ⟨rfl, rfl⟩
    · obtain rfl : k = len - o := by omega
      go_wp2
      go_ret2
      exact ⟨rfl, rfl⟩
end Go.Proofs.YtplgdpjbkdagfaaGreat
namespace Go.Proofs.YtplgdpjbkdagfaaGreat
set_option maxRecDepth 100000
open Go.ChangeShapes Go.WideShapes Go.ChangeAt Go.RowKit
open Go.ChangeMaps (open_string shut_string)
set_option linter.unusedVariables false
set_option linter.unusedSimpArgs false

/-- The bytes of a written-out row. -/
def litF (l : List Int) (i : Nat) : Int := l.getD i 0

theorem row_lit {w : World} {g : Nat} {t : TypeId} {fr : Nat × Nat} (l : List Int) (hg : g = w.heap.size) : Row (w.alloc (.cells (l.map (Value.int .u8)).toArray t fr)) g 0 l.length (litF l) := by
  intro i hi
  subst hg
  rw [Nat.zero_add, World.cell?_alloc_mark]
  simp [hi, litF]

theorem lit255 (l : List Int) (h : l.all (fun x => decide (0 ≤ x ∧ x ≤ 255)) = true) : Bytes255 (litF l) := by
  intro i
  unfold litF
  rcases Nat.lt_or_ge i l.length with hi | hi
  · have := List.all_eq_true.1 h l[i] (List.getElem_mem hi)
    simpa [List.getD, List.getElem?_eq_getElem hi] using this
  · simp [List.getD, List.getElem?_eq_none hi]

theorem own_row {w : World} {g n : Nat} {f : Nat → Value} {f' : Nat → Int} (h : Own w g n f) (e : ∀ i, i < n → f i = .int .u8 (f' i)) : Row w g 0 n f' := by
  intro i hi
  rw [Nat.zero_add, h.cell hi, e i hi]

end Go.Proofs.YtplgdpjbkdagfaaGreat
namespace Go.Proofs.YtplgdpjbkdagfaaGreat
set_option maxRecDepth 100000
open Go.RowKit
set_option linter.unusedVariables false
set_option linter.unusedSimpArgs false

/-- 'n & (2^k - 1)' of an int64: the rest by 2^k, whatever the sign. -/
theorem i64_mask (n : Int) (k : Nat) (hk : k < 63) : bits .and .i64 n (2 ^ k - 1 : Nat) = n % (2 ^ k : Nat) := by
  show IntKind.i64.wrap ((BitVec.ofInt 64 n &&& BitVec.ofInt 64 ((2 ^ k - 1 : Nat) : Int)).toNat : Int) = _
  have hp : 2 ^ k < 2 ^ 63 := Nat.pow_lt_pow_right (by omega) hk
  have hp0 : 0 < 2 ^ k := Nat.pow_pos (by omega)
  rw [BitVec.toNat_and]
  have e1 : (BitVec.ofInt 64 ((2 ^ k - 1 : Nat) : Int)).toNat = 2 ^ k - 1 := by
    rw [BitVec.ofInt_natCast, BitVec.toNat_ofNat]; exact Nat.mod_eq_of_lt (by omega)
  rw [e1, Nat.and_two_pow_sub_one_eq_mod, BitVec.toNat_ofInt]
  have e2 : ((n % ((2 ^ 64 : Nat) : Int)).toNat : Int) = n % ((2 ^ 64 : Nat) : Int) := Int.toNat_of_nonneg (Int.emod_nonneg _ (by omega))
  have e3 : (((n % ((2 ^ 64 : Nat) : Int)).toNat % 2 ^ k : Nat) : Int) = n % ((2 ^ k : Nat) : Int) := by
    rw [Int.natCast_emod, e2]
    exact Int.emod_emod_of_dvd n (Int.natCast_dvd_natCast.2 (Nat.pow_dvd_pow 2 (by omega)))
  rw [e3, IntKind.wrap_i64]
  have h1 := Int.emod_nonneg n (show ((2 ^ k : Nat) : Int) ≠ 0 by omega)
  have h2 := Int.emod_lt_of_pos n (show (0 : Int) < ((2 ^ k : Nat) : Int) by omega)
  generalize n % ((2 ^ k : Nat) : Int) = r at *
  omega

theorem and_ffff (n : Int) : bits .and .i64 n 65535 = n % 65536 := i64_mask n 16 (by omega)
theorem and_ff (n : Int) : bits .and .i64 n 255 = n % 256 := i64_mask n 8 (by omega)
theorem and_63 (n : Int) : bits .and .i64 n 63 = n % 64 := i64_mask n 6 (by omega)
theorem and_7 (n : Int) : bits .and .i64 n 7 = n % 8 := i64_mask n 3 (by omega)
end Go.Proofs.YtplgdpjbkdagfaaGreat
namespace Go.Proofs.YtplgdpjbkdagfaaGreat
set_option maxRecDepth 100000
open Go.ChangeShapes Go.WideShapes Go.ChangeAt Go.RowKit
set_option linter.unusedVariables false
set_option linter.unusedSimpArgs false

/-- A slice of n bytes f: it has none, or they lie somewhere. -/
def SlB (w : World) (A : Option Addr) (n : Nat) (f : Nat → Int) : Prop := n = 0 ∨ ∃ b off, A = some ⟨b, off, none⟩ ∧ b < w.heap.size ∧ Row w b off n f

theorem SlB.below {w w' : World} {A : Option Addr} {n : Nat} {f : Nat → Int} (h : SlB w A n f) (hb : Below w.heap.size w w') : SlB w' A n f := by
  rcases h with h | ⟨b, off, hA, hlt, hr⟩
  · exact .inl h
  · exact .inr ⟨b, off, hA, Nat.lt_of_lt_of_le hlt hb.size, fun i hi => (hb.cell (p := ⟨b, off + i, none⟩) hlt).trans (hr i hi)⟩

theorem cell_lt {w : World} {b o : Nat} {v : Value} (h : w.cell? ⟨b, o, none⟩ = some v) : b < w.heap.size := by
  rcases Nat.lt_or_ge b w.heap.size with hlt | hge
  · exact hlt
  · simp [World.cell?, Array.getElem?_eq_none hge] at h

theorem wf_u8 {n : Int} (h : (Lit.int .u8 n).wf = true) : 0 ≤ n ∧ n ≤ 255 := by
  have := bounds_u8 h
  omega

theorem sl_of {w : World} {a : Option Addr} {len cap : Nat} {zs : List Int} (h : (a = none ∧ len = 0 ∧ cap = 0 ∧ zs = []) ∨
    ∃ x, a = some x ∧ len ≤ cap ∧ cap ≤ maxLen ∧ zs.length = cap ∧ (∀ i, i < zs.length → w.cell? (x.add i) = some (.int .u8 (zs.getD i 0))) ∧ ∀ n ∈ zs, (Lit.int .u8 n).wf = true) :
    len ≤ cap ∧ cap ≤ 9223372036854775807 ∧ Bytes255 (litF zs) ∧ SlB w a len (litF zs) := by
  have hbyte : (∀ n ∈ zs, (Lit.int .u8 n).wf = true) → Bytes255 (litF zs) := by
    intro hw i
    unfold litF
    rcases Nat.lt_or_ge i zs.length with hi | hi
    · have := wf_u8 (hw zs[i] (List.getElem_mem hi))
      simpa [List.getD, List.getElem?_eq_getElem hi] using this
    · simp [List.getD, List.getElem?_eq_none hi]
  rcases h with ⟨rfl, rfl, rfl, rfl⟩ | ⟨x, rfl, hl, hm, hz, hcell, hwz⟩
  · exact ⟨by omega, by omega, hbyte (by simp), .inl rfl⟩
  · refine ⟨hl, by unfold maxLen at hm; omega, hbyte hwz, ?_⟩
    rcases Nat.eq_zero_or_pos len with h0 | h0
    · exact .inl h0
    · obtain ⟨b, off, spot⟩ := x
      have hc := hcell 0 (by omega)
      have hspot : spot = none := by simpa [Addr.add] using World.cell?_spot hc
      subst hspot
      have hadd : ∀ i, (⟨b, off, none⟩ : Addr).add i = ⟨b, off + i, none⟩ := fun i => by unfold Addr.add; split <;> simp_all
      refine .inr ⟨b, off, rfl, ?_, fun i hi => ?_⟩
      · rw [hadd] at hc; exact cell_lt hc
      · have := hcell i (by omega)
        rw [hadd] at this
        exact this
end Go.Proofs.YtplgdpjbkdagfaaGreat
namespace Go.Proofs.YtplgdpjbkdagfaaGreat
set_option maxRecDepth 100000
open Go.ChangeShapes Go.WideShapes Go.ChangeAt Go.RowKit
set_option linter.unusedVariables false
set_option linter.unusedSimpArgs false

/-- n cells of bytes f. -/
def bytesL (n : Nat) (f : Nat → Int) : List Value := (List.range n).map fun i => .int .u8 (f i)
theorem bytesL_len (n : Nat) (f : Nat → Int) : (bytesL n f).length = n := by simp [bytesL]
theorem bytesL_get (n : Nat) (f : Nat → Int) {i : Nat} (h : i < n) : (bytesL n f)[i]? = some (.int .u8 (f i)) := by simp [bytesL, h]

/-- f, and behind its first n elements h. -/
def catF (n : Nat) (f h : Nat → Int) (i : Nat) : Int := if i < n then f i else h (i - n)

theorem bytesL_cat (n m : Nat) (f h : Nat → Int) : bytesL n f ++ bytesL m h = bytesL (n + m) (catF n f h) := by
  apply List.ext_getElem?
  intro i
  rcases Nat.lt_or_ge i n with h1 | h1
  · rw [List.getElem?_append_left (by rw [bytesL_len]; omega), bytesL_get n f h1, bytesL_get _ _ (by omega)]
    simp [catF, h1]
  · rw [List.getElem?_append_right (by rw [bytesL_len]; omega), bytesL_len]
    rcases Nat.lt_or_ge (i - n) m with h2 | h2
    · rw [bytesL_get m h h2, bytesL_get _ _ (by omega)]
      simp [catF, show ¬ i < n by omega]
    · rw [List.getElem?_eq_none (by rw [bytesL_len]; omega), List.getElem?_eq_none (by rw [bytesL_len]; omega)]

theorem cat255 {n : Nat} {f h : Nat → Int} (hf : Bytes255 f) (hh : Bytes255 h) : Bytes255 (catF n f h) := by
  intro i; unfold catF; split
  · exact hf i
  · exact hh _

theorem bytesL_one (n : Nat) (f : Nat → Int) : ∀ u ∈ bytesL n f, u.oneCell' = true := by
  intro u hu
  obtain ⟨i, _, rfl⟩ := List.mem_map.1 hu
  rfl

theorem src_sl {w : World} {A : Option Addr} {m c : Nat} {f : Nat → Int} (h : SlB w A m f) : Src Tryz.prog 1 25 (.slice A m c) m (bytesL m f) w := by
  rcases A with _ | x
  · rcases h with rfl | ⟨b, off, hA, _⟩
    · exact Src.ofNil w Tryz.underlying25 c
    · cases hA
  · refine Src.ofSlice w Tryz.underlying25 x m c (bytesL m f) (by rw [bytesL_len, Nat.mul_one]) (fun j u hu => ?_) (bytesL_one m f)
    rcases h with rfl | ⟨b, off, hA, _, hr⟩
    · simp [bytesL] at hu
    · injection hA with hA
      subst hA
      have hj : j < m := by
        rcases Nat.lt_or_ge j m with hj | hj
        · exact hj
        · rw [List.getElem?_eq_none (by rw [bytesL_len]; omega)] at hu; cases hu
      rw [bytesL_get m f hj] at hu
      injection hu with hu
      subst hu
      have hadd : (⟨b, off, none⟩ : Addr).add j = ⟨b, off + j, none⟩ := by unfold Addr.add; split <;> simp_all
      rw [hadd]
      exact hr j hj

theorem src_str {w : World} (s : ByteArray) : Src Tryz.prog 1 9 (.string s) s.size (bytesL s.size (PlainAid.bt s)) w := by
  have h := Src.ofString (P := Tryz.prog) w Tryz.underlying9 s
  have e : byteCells s = bytesL s.size (PlainAid.bt s) := by
    apply List.ext_getElem?
    intro i
    rcases Nat.lt_or_ge i s.size with hi | hi
    · rw [bytesL_get _ _ hi]
      have hi' : i < s.data.size := hi
      simp only [byteCells, List.getElem?_map, Array.getElem?_toList, Array.getElem?_eq_getElem hi', Option.map_some]
      unfold PlainAid.bt
      rw [dif_pos hi]
      rfl
    · rw [List.getElem?_eq_none (by rw [byteCells_length]; omega), List.getElem?_eq_none (by rw [bytesL_len]; omega)]
  rw [e] at h
  exact h

theorem bt255 (s : ByteArray) : Bytes255 (PlainAid.bt s) := fun i => ⟨PlainAid.bt_nonneg s i, PlainAid.bt_le s i⟩

/-- An owned slice of n bytes f. -/
def OwnB (w : World) (base : Nat) (v : Value) (n : Nat) (f : Nat → Int) : Prop := w.ownsRow base 5 1 v n (bytesL n f)

theorem ownB_made (w : World) (base : Nat) (hb : base ≤ w.heap.size) (f : Nat → Int) : OwnB (w.alloc (.cells #[] 5)) base (.slice (some ⟨w.heap.size, 0, none⟩) 0 0) 0 f :=
  ⟨by simp [bytesL], .inr ⟨w.heap.size, 0, #[], rfl, hb, heap_alloc_new w _, Nat.le_refl _, by omega, rfl, by simp [bytesL]⟩⟩

theorem ownB_nil (w : World) (base : Nat) (f : Nat → Int) : OwnB w base (.slice none 0 0) 0 f := World.ownsRow_nil w base _ 1

theorem OwnB.own {w : World} {base g n cap : Nat} {f : Nat → Int} (h : OwnB w base (.slice (some ⟨g, 0, none⟩) n cap) n f) (hn : 0 < n) : base ≤ g ∧ g < w.heap.size ∧ n ≤ cap ∧ cap ≤ maxLen ∧ Own w g n (fun i => .int .u8 (f i)) := by
  obtain ⟨g', hA, hb, hown⟩ := Own.of_own (f := fun i => .int .u8 (f i)) h hn (fun i hi => bytesL_get n f hi)
  injection hA with hA
  injection hA with hA
  subst hA
  rcases h.2 with ⟨h0, h1⟩ | ⟨g', cap', cur, hv, _, _, h1, h2, _⟩
  · omega
  · injection hv with _ _ hv
    subst hv
    exact ⟨hb, hown.1, h1, h2, hown⟩

/-- append of bytes: the value written out. -/
theorem wpList_appB {w : World} {ops : Array Oper} {rest : List Oper} {o : Oper} {a : Act} {Q : Exit → Act → World → Prop} (hgd : o.guard = none) (s x : Operand) (tx : TypeId)
    (ho : o.op = .call { callee := .builtin .append, args := #[s, x], argTypes := #[25, tx] })
    (base : Nat) (v : Value) (n : Nat) (f : Nat → Int) (hv : a.eval s = v) (hown : OwnB w base v n f) (X : Value) (hX : a.eval x = X) (m : Nat) (h : Nat → Int) (hs : Src Tryz.prog 1 tx X m (bytesL m h) w)
    (hpos : 0 < n + m) (h63 : n + m ≤ 140737488355328) (hbase : base ≤ w.heap.size)
    (hK : ∀ g cap w', OwnB w' base (.slice (some ⟨g, 0, none⟩) (n + m) cap) (n + m) (catF n f h) → w.grownBy w' v.ownBlock → (v.ownBlock = some g ∨ g = w.heap.size) → wpList Tryz.prog ops Q rest (a.put o.dst (.slice (some ⟨g, 0, none⟩) (n + m) cap)) w') :
    wpList Tryz.prog ops Q (o :: rest) a w := by
  obtain ⟨i0, hi, hz0, hz1, hz2⟩ := info_parts infoU8
  refine wpList_app_src w hgd s x 25 tx ho base 5 i0 (.int .u8 0) 1 Tryz.underlying25 hi hz0 hz1 hz2 rfl v n (bytesL n f) hv hown X hX m (bytesL m h) hs (by unfold maxLen; omega) (by omega) hbase ?_
  intro v' w' hown' hg _ hat
  rw [bytesL_cat] at hown'
  obtain ⟨g, cap, hv', hb, hlt⟩ := hown'.form hpos
  subst hv'
  exact hK g cap w' hown' hg (by
    rcases hat with hat | hat
    · left; rw [← hat]; rfl
    · right; simpa [Value.ownBlock] using hat)

/-- append of bytes: whatever comes, nothing too. -/
theorem wpList_appV {w : World} {ops : Array Oper} {rest : List Oper} {o : Oper} {a : Act} {Q : Exit → Act → World → Prop} (hgd : o.guard = none) (s x : Operand) (tx : TypeId)
    (ho : o.op = .call { callee := .builtin .append, args := #[s, x], argTypes := #[25, tx] })
    (base : Nat) (v : Value) (n : Nat) (f : Nat → Int) (hv : a.eval s = v) (hown : OwnB w base v n f) (X : Value) (hX : a.eval x = X) (m : Nat) (h : Nat → Int) (hs : Src Tryz.prog 1 tx X m (bytesL m h) w)
    (h63 : n + m ≤ 140737488355328) (hbase : base ≤ w.heap.size)
    (hK : ∀ v' w', OwnB w' base v' (n + m) (catF n f h) → w.grownBy w' v.ownBlock → (v'.ownBlock = v.ownBlock ∨ v'.ownBlock = some w.heap.size) → wpList Tryz.prog ops Q rest (a.put o.dst v') w') :
    wpList Tryz.prog ops Q (o :: rest) a w := by
  obtain ⟨i0, hi, hz0, hz1, hz2⟩ := info_parts infoU8
  refine wpList_app_src w hgd s x 25 tx ho base 5 i0 (.int .u8 0) 1 Tryz.underlying25 hi hz0 hz1 hz2 rfl v n (bytesL n f) hv hown X hX m (bytesL m h) hs (by unfold maxLen; omega) (by omega) hbase ?_
  intro v' w' hown' hg _ hat
  rw [bytesL_cat] at hown'
  exact hK v' w' hown' hg hat

/-- append of bytes: a slice of whatever address comes. -/
theorem wpList_appS {w : World} {ops : Array Oper} {rest : List Oper} {o : Oper} {a : Act} {Q : Exit → Act → World → Prop} (hgd : o.guard = none) (s x : Operand) (tx : TypeId)
    (ho : o.op = .call { callee := .builtin .append, args := #[s, x], argTypes := #[25, tx] })
    (base : Nat) (v : Value) (n : Nat) (f : Nat → Int) (hv : a.eval s = v) (hown : OwnB w base v n f) (X : Value) (hX : a.eval x = X) (m : Nat) (h : Nat → Int) (hs : Src Tryz.prog 1 tx X m (bytesL m h) w)
    (h63 : n + m ≤ 140737488355328) (hbase : base ≤ w.heap.size)
    (hK : ∀ A cap w', OwnB w' base (.slice A (n + m) cap) (n + m) (catF n f h) → w.grownBy w' v.ownBlock → wpList Tryz.prog ops Q rest (a.put o.dst (.slice A (n + m) cap)) w') :
    wpList Tryz.prog ops Q (o :: rest) a w := by
  refine wpList_appV hgd s x tx ho base v n f hv hown X hX m h hs h63 hbase ?_
  intro v' w' hown' hg _
  obtain ⟨A, cap, rfl⟩ : ∃ A cap, v' = .slice A (n + m) cap := by
    rcases hown'.2 with ⟨h1, h2⟩ | ⟨g, cap, _, h1, _⟩
    · exact ⟨none, 0, by rw [h1, h2]⟩
    · exact ⟨_, cap, h1⟩
  exact hK A cap w' hown' hg

theorem OwnB.slice {w : World} {base n cap : Nat} {A : Option Addr} {f : Nat → Int} (h : OwnB w base (.slice A n cap) n f) :
    n ≤ cap ∧ cap ≤ maxLen ∧ (n = 0 ∨ ∃ g, A = some ⟨g, 0, none⟩ ∧ base ≤ g ∧ Own w g n (fun i => .int .u8 (f i))) := by
  rcases Nat.eq_zero_or_pos n with h0 | h0
  · subst h0
    rcases h.2 with ⟨h1, _⟩ | ⟨g, cap', _, h1, _, _, h2, h3, _⟩
    · injection h1 with _ _ h1; subst h1; exact ⟨by omega, by omega, .inl rfl⟩
    · injection h1 with _ _ h1; subst h1; exact ⟨h2, h3, .inl rfl⟩
  · obtain ⟨g, hA, hb, hown⟩ := Own.of_own (f := fun i => .int .u8 (f i)) h h0 (fun i hi => bytesL_get n f hi)
    subst hA
    obtain ⟨_, _, h2, h3, _⟩ := h.own h0
    exact ⟨h2, h3, .inr ⟨g, rfl, hb, hown⟩⟩

/-- What the grown row leaves below. -/
theorem below_own {w w' : World} {base : Nat} {v : Value} {n : Nat} {f : Nat → Int} {B : World} (h : Below B.heap.size B w) (hb : B.heap.size ≤ base) (hown : OwnB w base v n f) (hg : w.grownBy w' v.ownBlock) : Below B.heap.size B w' :=
  h.grown hg h.size (fun k hk => Nat.le_trans hb (hown.lt k hk).1)
theorem OwnB.below {w w' : World} {base : Nat} {v : Value} {n : Nat} {f : Nat → Int} (h : OwnB w base v n f) (hb : Below w.heap.size w w') : OwnB w' base v n f :=
  World.ownsRow.kept h (row := none) ⟨hb.os, hb.tape, hb.output, hb.size, fun i hi _ => hb.block i hi⟩ (by
    cases hv : v.ownBlock with
    | none => exact .inl rfl
    | some k => exact .inr (by simp))
end Go.Proofs.YtplgdpjbkdagfaaGreat
namespace Go.Proofs.YtplgdpjbkdagfaaGreat
set_option maxRecDepth 100000
open Go.ChangeShapes Go.WideShapes Go.ChangeAt Go.RowKit
set_option linter.unusedVariables false
set_option linter.unusedSimpArgs false

theorem strF_congr {f f' : Nat → Int} {o o' n : Nat} (h : ∀ i, i < n → f (o + i) = f' (o' + i)) : strF f o n = strF f' o' n := by
  unfold strF
  congr 1
  apply List.map_congr_left
  intro i hi
  exact h i (List.mem_range.1 hi)

theorem strF_nil (f : Nat → Int) (o : Nat) : strF f o 0 = ByteArray.empty := rfl

theorem Row.part {w : World} {b off len : Nat} {f : Nat → Int} (h : Row w b off len f) {o n : Nat} (hn : o + n ≤ len) : Row w b (off + o) n (fun i => f (o + i)) := by
  intro i hi
  rw [Nat.add_assoc]
  exact h (o + i) (by omega)

theorem Row.congr {w : World} {b off len : Nat} {f f' : Nat → Int} (h : Row w b off len f) (e : ∀ i, i < len → f i = f' i) : Row w b off len f' := fun i hi => by rw [h i hi, e i hi]
theorem Row.less {w : World} {b off len n : Nat} {f : Nat → Int} (h : Row w b off len f) (hn : n ≤ len) : Row w b off n f := fun i hi => h i (by omega)
theorem Row.below {w w' : World} {B b off len : Nat} {f : Nat → Int} (h : Row w b off len f) (hb : Below B w w') (hB : b < B) : Row w' b off len f := fun i hi => (hb.cell (p := ⟨b, off + i, none⟩) hB).trans (h i hi)
theorem Row.grown {w w' : World} {row : Option Nat} {b off len : Nat} {f : Nat → Int} (h : Row w b off len f) (hb : w.grownBy w' row) (hl : b < w.heap.size) (hB : some b ≠ row) : Row w' b off len f :=
  fun i hi => (World.cell?_of_block (a := ⟨b, off + i, none⟩) (hb.block b hl hB)).trans (h i hi)

theorem run_str0 {w : World} {A : Option Addr} {cap : Nat} : (convert 25 9 (.slice A 0 cap)).run Tryz.prog w = .ok (.string ByteArray.empty) w := by
  rcases A with _ | ⟨b, off, spot⟩
  · exact run_convert_bytes_nil w 25 5 Tryz.underlying25 Tryz.underlying5 0 cap 9 Tryz.underlying9
  · rw [run_convert_bytes_string w 25 9 5 _ 0 cap Tryz.underlying25 Tryz.underlying5 Tryz.underlying9]
    rw [run_bytesToString w ⟨b, off, spot⟩ 0 cap [] (by simp [loadCells, loadCellsFrom])]
    rfl

theorem run_tail {b off len cap lo : Nat} (h1 : lo ≤ len) (h2 : len ≤ cap) (h3 : cap ≤ 9223372036854775807) :
    ∃ A', (∀ W, (Instr.slice 25 (.slice (some ⟨b, off, none⟩) len cap) (some (.int .i64 lo)) none none).run Tryz.prog W = .ok (.slice A' (len - lo) (cap - lo)) W) ∧
      ∀ (w : World) (f : Nat → Int), Row w b off len f → ∀ c, (convert 25 9 (.slice A' (len - lo) c)).run Tryz.prog w = .ok (.string (strF f lo (len - lo))) w := by
  by_cases h : cap = lo
  · refine ⟨some ⟨b, off, none⟩, fun W => ?_, fun w f hr c => ?_⟩
    · subst h
      obtain rfl : len = cap := by omega
      simp [Instr.slice, Instr.sliceBounds, run_underlying Tryz.underlying25, go_sem]
    · have e : len - lo = 0 := by omega
      rw [e, run_str0]; rfl
  · refine ⟨some ⟨b, off + lo, none⟩, fun W => ?_, fun w f hr c => run_str_at hr (by omega)⟩
    have h4 : ¬ cap - lo = 0 := by omega
    simp [Instr.slice, Instr.sliceBounds, run_underlying Tryz.underlying25, go_sem, h1, h]
end Go.Proofs.YtplgdpjbkdagfaaGreat
namespace Go.Proofs.YtplgdpjbkdagfaaGreat
set_option maxRecDepth 100000
open Go.ChangeShapes Go.WideShapes Go.ChangeAt Go.RowKit
set_option linter.unusedVariables false
set_option linter.unusedSimpArgs false

/-- The bytes behind a store. -/
def putI (f : Nat → Int) (o : Nat) (v : Int) (k : Nat) (j : Nat) : Int := if o ≤ j ∧ j < o + k then byteOf v (j - o) else f j
theorem putF_int (f : Nat → Int) (o : Nat) (v : Int) (k j : Nat) : putF (fun i => .int .u8 (f i)) o v k j = .int .u8 (putI f o v k j) := by
  unfold putF putI; split <;> rfl
theorem byteOf_bd (v : Int) (i : Nat) : 0 ≤ byteOf v i ∧ byteOf v i ≤ 255 := by unfold byteOf; omega
theorem putI255 {f : Nat → Int} (hf : Bytes255 f) (o : Nat) (v : Int) (k : Nat) : Bytes255 (putI f o v k) := by
  intro i; unfold putI; split
  · exact byteOf_bd _ _
  · exact hf i

/-- The number of the bytes that were put. -/
theorem rdF_put (f : Nat → Int) (v : Int) (k : Nat) : ∀ (n o d : Nat), d + n ≤ k → rdF (putI f o v k) (o + d) n = v / 2 ^ (8 * d) % 256 ^ n := by
  intro n
  induction n with
  | zero => intro o d _; simp [rdF]
  | succ n ih =>
    intro o d h
    simp only [rdF]
    rw [show o + d + 1 = o + (d + 1) from by omega, ih o (d + 1) (by omega)]
    have e1 : putI f o v k (o + d) = v / 2 ^ (8 * d) % 256 := by
      unfold putI byteOf; rw [if_pos (by omega)]; congr 2; congr 2; omega
    rw [e1, show 8 * (d + 1) = 8 * d + 8 from by omega, Int.pow_add, ← Int.ediv_ediv_of_nonneg (by exact Int.pow_nonneg (by omega))]
    generalize v / 2 ^ (8 * d) = q
    have hp : (0 : Int) < 256 ^ n := Int.pow_pos (by omega)
    rw [Int.pow_succ 256 n, show (2 : Int) ^ 8 = 256 from rfl]
    generalize (256 : Int) ^ n = P at *
    have h1 := Int.emod_add_mul_ediv q 256
    have h2 := Int.emod_add_mul_ediv (q / 256) P
    have hr0 := Int.emod_nonneg (q / 256) (show P ≠ 0 by omega)
    have hr1 := Int.emod_lt_of_pos (q / 256) hp
    have hq0 := Int.emod_nonneg q (show (256 : Int) ≠ 0 by omega)
    have hq1 := Int.emod_lt_of_pos q (show (0 : Int) < 256 by omega)
    have key : q = (q % 256 + 256 * (q / 256 % P)) + (P * 256) * (q / 256 / P) := by
      have e : P * 256 * (q / 256 / P) = 256 * (P * (q / 256 / P)) := by rw [Int.mul_comm P 256, Int.mul_assoc]
      rw [e]; omega
    conv => rhs; rw [key]
    rw [Int.add_mul_emod_self_left]
    exact (Int.emod_eq_of_lt (by omega) (by omega)).symm

theorem catF_zero (f h : Nat → Int) : catF 0 f h = h := by funext i; unfold catF; rw [if_neg (by omega), Nat.sub_zero]

theorem u64_and_mask {v : Int} (h0 : 0 ≤ v) (h1 : v ≤ 18446744073709551615) (k : Nat) (hk : k < 64) : bits BinOp.and IntKind.u64 v ((2 ^ k - 1 : Nat) : Int) = v % (2 ^ k : Nat) := by
  obtain ⟨x, rfl⟩ := Int.eq_ofNat_of_zero_le h0
  have hp : 2 ^ k ≤ 2 ^ 63 := Nat.pow_le_pow_right (by omega) (by omega)
  have hp0 : 0 < 2 ^ k := Nat.pow_pos (by omega)
  rw [u64_and_nat x (2 ^ k - 1) (by omega) (by omega), Nat.and_two_pow_sub_one_eq_mod]
  rfl

/-- What lay in w lies in W. -/
def Keeps (w W : World) : Prop := w.heap.size ≤ W.heap.size ∧ ∀ p : Addr, p.block < w.heap.size → W.cell? p = w.cell? p
theorem Keeps.row {w W : World} (h : Keeps w W) {b off len : Nat} {f : Nat → Int} (hr : Row w b off len f) (hb : b < w.heap.size) : Row W b off len f := fun i hi => (h.2 ⟨b, off + i, none⟩ hb).trans (hr i hi)
theorem Keeps.self (w : World) : Keeps w w := ⟨Nat.le_refl _, fun _ _ => rfl⟩
theorem Keeps.drewN (w : World) (n : Nat) : Keeps w (w.drewN n) := ⟨Nat.le_refl _, fun _ _ => rfl⟩
theorem Keeps.drew (w : World) : Keeps w w.drew := ⟨Nat.le_refl _, fun _ _ => rfl⟩
theorem Keeps.below {w W W' : World} (h : Keeps w W) (hb : Below W.heap.size W W') : Keeps w W' := ⟨Nat.le_trans h.1 hb.size, fun p hp => (hb.cell (Nat.lt_of_lt_of_le hp h.1)).trans (h.2 p hp)⟩

theorem strF_bt (s : ByteArray) : strF (PlainAid.bt s) 0 s.size = s := by
  apply ByteArray.ext
  apply Array.toList_inj.1
  unfold strF
  rw [strOfNums_data, List.map_map]
  apply List.ext_getElem?
  intro i
  rcases Nat.lt_or_ge i s.size with hi | hi
  · have hi' : i < s.data.size := hi
    simp only [List.getElem?_map, List.getElem?_range hi, Option.map_some, Function.comp_apply, Nat.zero_add, Array.getElem?_toList, Array.getElem?_eq_getElem hi']
    unfold PlainAid.bt
    rw [dif_pos hi]
    simp
    rfl
  · rw [List.getElem?_eq_none (by simpa using hi), List.getElem?_eq_none (by simpa using hi)]

theorem extract_bt (s : ByteArray) (o n : Nat) (h : o + n ≤ s.size) : s.extract o (o + n) = strF (PlainAid.bt s) o n := by
  apply ByteArray.ext
  apply Array.toList_inj.1
  unfold strF
  rw [strOfNums_data, List.map_map]
  apply List.ext_getElem?
  intro i
  have hd : (s.extract o (o + n)).data = s.data.extract o (o + n) := by simp
  rw [hd, Array.getElem?_toList, Array.getElem?_extract]
  rcases Nat.lt_or_ge i n with hi | hi
  · have hi' : o + i < s.data.size := by have : s.size = s.data.size := rfl; omega
    rw [if_pos (by have : s.size = s.data.size := rfl; omega)]
    simp only [List.getElem?_map, List.getElem?_range hi, Option.map_some, Function.comp_apply, Array.getElem?_eq_getElem hi']
    unfold PlainAid.bt
    rw [dif_pos (show o + i < s.size from hi')]
    simp
    rfl
  · rw [if_neg (by have : s.size = s.data.size := rfl; omega), List.getElem?_eq_none (by simpa using hi)]

theorem rdF_snoc (f : Nat → Int) (o k : Nat) : rdF f o (k + 1) = rdF f o k + 256 ^ k * f (o + k) := by
  rw [rdF_add]; simp [rdF]

theorem rdF_congr {f f' : Nat → Int} (n : Nat) : ∀ o, (∀ i, i < n → f (o + i) = f' (o + i)) → rdF f o n = rdF f' o n := by
  induction n with
  | zero => intro o _; rfl
  | succ n ih =>
    intro o h
    simp only [rdF]
    rw [ih (o + 1) (fun i hi => by have := h (i + 1) (by omega); rw [show o + (i + 1) = o + 1 + i by omega] at this; exact this)]
    have := h 0 (by omega)
    rw [Nat.add_zero] at this
    rw [this]

theorem bt_strF {f : Nat → Int} (hb : Bytes255 f) {o n i : Nat} (h : i < n) : PlainAid.bt (strF f o n) i = f (o + i) := by
  have h5 := hb (o + i)
  unfold PlainAid.bt
  rw [dif_pos (by rw [strF_size]; exact h)]
  have e : (strF f o n)[i]'(by rw [strF_size]; exact h) = UInt8.ofNat (f (o + i)).toNat := by
    show (strF f o n).data[i]'_ = _
    simp [strF, strOfNums]
  rw [e]
  simp
  omega

theorem strF_cat (f : Nat → Int) (o n m : Nat) : strF f o n ++ strF f (o + n) m = strF f o (n + m) := by
  apply ByteArray.ext
  apply Array.toList_inj.1
  have h : (strF f o n ++ strF f (o + n) m).data = (strF f o n).data ++ (strF f (o + n) m).data := by simp
  rw [h, Array.toList_append]
  unfold strF
  rw [strOfNums_data, strOfNums_data, strOfNums_data, ← List.map_append]
  congr 1
  rw [List.range_add, List.map_append, List.map_map]
  congr 1
  apply List.map_congr_left
  intro i _
  simp [Nat.add_assoc]

end Go.Proofs.YtplgdpjbkdagfaaGreat
namespace Go.Proofs.YtplgdpjbkdagfaaGreat
set_option maxRecDepth 100000
open Go.ChangeShapes Go.WideShapes Go.ChangeAt Go.RowKit
set_option linter.unusedVariables false
set_option linter.unusedSimpArgs false

theorem belD {B : Nat} {w wr : World} (h : Below B w wr) (n : Nat) : Below B w (wr.drewN n) := ⟨h.os, h.tape, h.output, h.size, h.block⟩

theorem rowIn_any (A : Option Addr) (len cap : Nat) (a n : Int) (b : Bool) (w : World) (hl : len ≤ 9223372036854775807) (n1 : -9223372036854775808 ≤ n) (n2 : n ≤ 9223372036854775807) (hb : b = true ↔ (0 ≤ a ∧ 0 ≤ n ∧ a ≤ len - n)) :
    Calls Tryz.prog 113 #[.slice A len cap, .int .i64 a, .int .i64 n] w fun e w' => e = .returned (.bool b) ∧ w = w' := by
  by_cases c1 : 0 ≤ a
  · by_cases c2 : 0 ≤ n
    · by_cases c3 : a ≤ len - n
      · have hbt : b = true := hb.2 ⟨c1, c2, c3⟩
        subst hbt
        have c4 : decide (a ≤ (len : Int) - n) = true := decide_eq_true c3
        clear hb
        go_enter Tryz.func113, Tryz.ntmps113
        go_wp2
        go_ret
        exact ⟨rfl, rfl⟩
      · have hbt : b = false := by cases b with
          | false => rfl
          | true => exact absurd (hb.1 rfl).2.2 c3
        subst hbt
        have c4 : decide (a ≤ (len : Int) - n) = false := decide_eq_false c3
        clear hb c3
        go_enter Tryz.func113, Tryz.ntmps113
        go_wp2
        go_ret
        exact ⟨rfl, rfl⟩
    · have hbt : b = false := by cases b with
        | false => rfl
        | true => exact absurd (hb.1 rfl).2.1 c2
      subst hbt
      clear hb
      go_enter Tryz.func113, Tryz.ntmps113
      go_wp2
      go_ret
      exact ⟨rfl, rfl⟩
  · have hbt : b = false := by cases b with
      | false => rfl
      | true => exact absurd (hb.1 rfl).1 c1
    subst hbt
    clear hb
    go_enter Tryz.func113, Tryz.ntmps113
    go_wp2
    go_ret
    exact ⟨rfl, rfl⟩
end Go.Proofs.YtplgdpjbkdagfaaGreat
namespace Go.Proofs.YtplgdpjbkdagfaaGreat
set_option maxRecDepth 100000
open Go.ChangeShapes Go.WideShapes Go.ChangeAt Go.RowKit
set_option linter.unusedVariables false
set_option linter.unusedSimpArgs false

/-- The least multiple of t (1 at least) that is not below n, n being 2^40 at most. -/
def roundS (n t : Int) : Int := if n < 1 then 0 else ((min n 1099511627776 - 1) / max t 1 + 1) * max t 1

theorem roundS_bd (n t : Int) (ht : t ≤ 9223372036854775807) : 0 ≤ roundS n t ∧ roundS n t ≤ 9223372036854775807 := by
  unfold roundS
  split
  · omega
  · obtain ⟨m, hm⟩ : ∃ m, min n 1099511627776 = m := ⟨_, rfl⟩
    obtain ⟨d, hd⟩ : ∃ d, max t 1 = d := ⟨_, rfl⟩
    rw [hm, hd]
    have h1 : 1 ≤ m := by omega
    have h2 : m ≤ 1099511627776 := by omega
    have d1 : 1 ≤ d := by omega
    have d2 : d ≤ 9223372036854775807 := by omega
    have e : (m - 1) / d * d ≤ m - 1 := Int.ediv_mul_le _ (by omega)
    have e0 : 0 ≤ (m - 1) / d := Int.ediv_nonneg (by omega) (by omega)
    have e00 : 0 ≤ (m - 1) / d * d := Int.mul_nonneg e0 (by omega)
    rw [Int.add_mul, Int.one_mul]
    by_cases c : m - 1 < d
    · rw [Int.ediv_eq_zero_of_lt (by omega) c]; omega
    · omega

theorem round_any (n t : Int) (w : World) (h0 : -9223372036854775808 ≤ n) (h1 : n ≤ 9223372036854775807) (t0 : -9223372036854775808 ≤ t) (t1 : t ≤ 9223372036854775807) :
    Calls Tryz.prog 106 #[.int .i64 n, .int .i64 t] w fun e w' => e = .returned (.int .i64 (roundS n t)) ∧ w = w' := by
  have hb := roundS_bd n t t1
  unfold roundS at hb ⊢
  by_cases c : n < 1
  · rw [if_pos c]
    go_enter Tryz.func106, Tryz.ntmps106
    go_wp2
    go_ret
    exact ⟨rfl, rfl⟩
  · rw [if_neg c] at hb ⊢
    obtain ⟨m, hm⟩ : ∃ m, min n 1099511627776 = m := ⟨_, rfl⟩
    obtain ⟨d, hd⟩ : ∃ d, max t 1 = d := ⟨_, rfl⟩
    rw [hm, hd] at hb ⊢
    have h1 : 1 ≤ m := by omega
    have h2 : m ≤ 1099511627776 := by omega
    have d1 : 1 ≤ d := by omega
    have d2 : d ≤ 9223372036854775807 := by omega
    obtain ⟨q, hq⟩ : ∃ q, (m - 1) / d = q := ⟨_, rfl⟩
    have hqt : Int.tdiv (m - 1) d = q := by rw [← hq]; exact Int.tdiv_eq_ediv_of_nonneg (by omega)
    have q0 : 0 ≤ q := by rw [← hq]; exact Int.ediv_nonneg (by omega) (by omega)
    have q1 : q ≤ 1099511627776 := by rw [← hq]; exact Int.le_trans (Int.ediv_le_self _ (by omega)) (by omega)
    rw [hq] at hb ⊢
    obtain ⟨r, hr⟩ : ∃ r, (q + 1) * d = r := ⟨_, rfl⟩
    rw [hr] at hb ⊢
    have hw : wrap64 r = r := by unfold wrap64; omega
    obtain ⟨b0, b1⟩ := hb
    have hw1 : wrap64 (q + 1) = q + 1 := by unfold wrap64; omega
    have hc : (n ≤ 1099511627776 ∧ m = n) ∨ (1099511627776 < n ∧ m = 1099511627776) := by omega
    have hcd : (1 ≤ t ∧ d = t) ∨ (t < 1 ∧ d = 1) := by omega
    rcases hc with ⟨n1, rfl⟩ | ⟨n1, rfl⟩ <;> rcases hcd with ⟨n2, rfl⟩ | ⟨n2, rfl⟩
    all_goals
      clear hm hd hqt
      try simp only [show (1099511627776 - 1 : Int) = 1099511627775 from rfl] at hq
      go_enter Tryz.func106, Tryz.ntmps106
      go_wp2
      go_ret
      first
      | exact ⟨rfl, rfl⟩
      | exact ⟨congrArg _ (congrArg (Value.int .i64) (by omega)), rfl⟩

theorem emod_up {m d : Int} (h1 : 1 ≤ m) (hd : 1 ≤ d) : ((m - 1) / d + 1) * d = if m % d = 0 then m else m - m % d + d := by
  have e := Int.mul_ediv_add_emod m d
  have m0 := Int.emod_nonneg m (show d ≠ 0 by omega)
  have m1 := Int.emod_lt_of_pos m (show 0 < d by omega)
  obtain ⟨q, hq⟩ : ∃ q, m / d = q := ⟨_, rfl⟩
  obtain ⟨r, hr⟩ : ∃ r, m % d = r := ⟨_, rfl⟩
  rw [hq, hr] at e
  rw [hr] at m0 m1 ⊢
  by_cases c : r = 0
  · rw [if_pos c]
    have hx : (m - 1) / d = q - 1 := by
      rw [show m - 1 = (d - 1) + d * (q - 1) by rw [Int.mul_sub, Int.mul_one]; omega, Int.add_mul_ediv_left _ _ (by omega), Int.ediv_eq_zero_of_lt (by omega) (by omega)]
      omega
    rw [hx, Int.sub_add_cancel, Int.mul_comm]
    omega
  · rw [if_neg c]
    have hx : (m - 1) / d = q := by
      rw [show m - 1 = (r - 1) + d * q by omega, Int.add_mul_ediv_left _ _ (by omega), Int.ediv_eq_zero_of_lt (by omega) (by omega)]
      omega
    rw [hx, Int.add_mul, Int.one_mul, Int.mul_comm]
    omega

theorem rround_any (n t : Int) (w : World) (h0 : -9223372036854775808 ≤ n) (h1 : n ≤ 9223372036854775807) (t0 : -9223372036854775808 ≤ t) (t1 : t ≤ 9223372036854775807) :
    Calls Tryz.prog 71 #[.int .i64 n, .int .i64 t] w fun e w' => e = .returned (.int .i64 (roundS n t)) ∧ w = w' := by
  have hb := roundS_bd n t t1
  unfold roundS at hb ⊢
  by_cases c : n < 1
  · rw [if_pos c]
    go_enter Tryz.func71, Tryz.ntmps71
    go_wp2
    go_ret
    exact ⟨rfl, rfl⟩
  · rw [if_neg c] at hb ⊢
    rw [emod_up (by omega) (by omega)] at hb ⊢
    obtain ⟨m, hm⟩ : ∃ m, min n 1099511627776 = m := ⟨_, rfl⟩
    obtain ⟨d, hd⟩ : ∃ d, max t 1 = d := ⟨_, rfl⟩
    rw [hm, hd] at hb ⊢
    have h1 : 1 ≤ m := by omega
    have h2 : m ≤ 1099511627776 := by omega
    have d1 : 1 ≤ d := by omega
    have d2 : d ≤ 9223372036854775807 := by omega
    have m0 := Int.emod_nonneg m (show d ≠ 0 by omega)
    have m1 := Int.emod_lt_of_pos m (show 0 < d by omega)
    have m2 : m % d ≤ m := by
      have e := Int.mul_ediv_add_emod m d
      have e2 := Int.mul_nonneg (show 0 ≤ d by omega) (Int.ediv_nonneg (show 0 ≤ m by omega) (show 0 ≤ d by omega))
      omega
    have hmt : Int.tmod m d = m % d := Int.tmod_eq_emod_of_nonneg (by omega)
    have hc : (n ≤ 1099511627776 ∧ m = n) ∨ (1099511627776 < n ∧ m = 1099511627776) := by omega
    have hcd : (1 ≤ t ∧ d = t) ∨ (t < 1 ∧ d = 1) := by omega
    obtain ⟨r, hr⟩ : ∃ r, m % d = r := ⟨_, rfl⟩
    rw [hr] at m0 m1 m2 hb hmt ⊢
    by_cases c0 : r = 0
    · have e0 : (r == 0) = true := by simp [c0]
      rw [if_pos c0]
      rcases hc with ⟨n1, rfl⟩ | ⟨n1, rfl⟩ <;> rcases hcd with ⟨n2, rfl⟩ | ⟨n2, rfl⟩
      all_goals
        clear hm hd hb c0
        go_enter Tryz.func71, Tryz.ntmps71
        go_wp2
        go_ret
        exact ⟨rfl, rfl⟩
    · have e0 : (r == 0) = false := by simpa using c0
      rw [if_neg c0] at hb ⊢
      rcases hc with ⟨n1, rfl⟩ | ⟨n1, rfl⟩ <;> rcases hcd with ⟨n2, rfl⟩ | ⟨n2, rfl⟩
      all_goals
        first
        | (exfalso; omega)
        | (clear hm hd c0
           go_enter Tryz.func71, Tryz.ntmps71
           go_wp2
           go_ret
           exact ⟨rfl, rfl⟩)
end Go.Proofs.YtplgdpjbkdagfaaGreat
