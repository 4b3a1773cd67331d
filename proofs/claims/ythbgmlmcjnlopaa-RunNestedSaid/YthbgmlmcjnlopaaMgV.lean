/- law 17: RunNested: what its code comes to. · So many noughts: made, and as a text. · law 17: RunNested, the walk. -/
import Derived.Test.YthbgmlmcjnlopaaMgU
import Derived.Test.YthbgmlmcjnlopaaMgC
import Derived.Test.YthbgmlmcjnlopaaApp
import Derived.Laws.OwnMore
import Derived.Deep.Cut
namespace Go.Proofs.Ythbgmlmcjnlopaa
open Go.ChangeShapes Go.WideShapes Go.ChangeAt Go.RowKit
set_option linter.unusedVariables false
set_option linter.unusedSimpArgs false
set_option maxRecDepth 100000

def iN1 : InsV := ⟨15, 0, 0, 5, 0, 0, 0⟩
def iN2 : InsV := ⟨7, 1, 0, 7, 0, 0, 0⟩
def iN3 : InsV := ⟨20, 0, 0, 0, 4, 0, 5⟩
def iN4 : InsV := ⟨17, 0, 0, 0, 0, 0, -13⟩
def iN5 : InsV := ⟨2, 0, 0, 0, 0, 0, 0⟩
def fN1 : Form := ⟨15,5,0,5,255,2,192,0⟩
def fN2 : Form := ⟨7,7,0,2,57,3,192,0⟩
def fN3 : Form := ⟨20,0,4,0,116,0,0,6⟩
def fN4 : Form := ⟨17,0,0,0,232,0,0,5⟩
def fN5 : Form := ⟨2,0,0,0,195,0,0,0⟩
theorem tN1 : Tells fN1 iN1 := ⟨by decide, rfl, rfl, rfl, by decide, by decide⟩
theorem tN2 : Tells fN2 iN2 := ⟨by decide, rfl, rfl, rfl, by decide, by decide⟩
theorem tN3 : Tells fN3 iN3 := ⟨by decide, rfl, rfl, rfl, by decide, by decide⟩
theorem tN4 : Tells fN4 iN4 := ⟨by decide, rfl, rfl, rfl, by decide, by decide⟩
theorem tN5 : Tells fN5 iN5 := ⟨by decide, rfl, rfl, rfl, by decide, by decide⟩
theorem eN1 : encM fN1 iN1 = [72, 255, 192] := by decide
theorem eN2 : encM fN2 iN2 = [72, 57, 200] := by decide
theorem eN3 : encM fN3 iN3 = [116, 5] := by decide
theorem eN4 : encM fN4 iN4 = [232, 243, 255, 255, 255] := by decide
theorem eN5 : encM fN5 iN5 = [195] := by decide
def codN17 : List Nat := [72, 255, 192, 72, 57, 200, 116, 5, 232, 243, 255, 255, 255, 195]
/-- The memory behind so many calls. -/
structure NsM (mp : Int → Option Pg) (j : Nat) : Prop where
  ok : MpOk mp
  p1 : protAt mp 4096 = some 4
  p2 : protAt mp 8192 = some 1
  p3 : protAt mp 12288 = some 3
  code : ∀ q : Nat, q < 14 → byteAt mp (4096 + q) = bF codN17 q
  nou : ∀ q : Nat, q < 4096 → byteAt mp (8192 + q) = 0
  gate : numM mp 16376 = gateA
  num : ∀ i : Nat, 1 ≤ i → i ≤ j → numM mp (16376 - 8 * i) = 4109
namespace NsM
variable {mp : Int → Option Pg} {j : Nat}
theorem less (h : NsM mp j) {k : Nat} (hk : k ≤ j) : NsM mp k := ⟨h.ok, h.p1, h.p2, h.p3, h.code, h.nou, h.gate, fun i a b => h.num i a (by omega)⟩
theorem fetch (h : NsM mp j) {F : Form} {x : InsV} (hx : Tells F x) (o : Nat) (bs : List Nat) (hbs : encM F x = bs) (ho : o + bs.length ≤ 14) (hb : ∀ i, i < bs.length → bF codN17 (o + i) = (bs.getD i 0 : Nat)) {ip : Int} (hip : ip = 4096 + o) :
    fetchM mp ip 12 [] = ⟨false, mp, x, bs.length, 0, 0, 0⟩ := by
  subst hip
  have := fetch_tells (mp := mp) hx (ip := 4096 + o) (by omega) (by omega) (fun i hi => by
    rw [hbs] at hi
    rw [ask_ok (p := 4) (by omega) (by omega) (by rw [show (4096 + (o : Int) + i) - (4096 + (o : Int) + i) % 4096 = 4096 by omega]; exact h.p1) (by decide) (by decide) (by omega)]) (fun i hi => by
    rw [hbs] at hi ⊢
    have := h.code (o + i) (by omega)
    rw [← hb i hi, ← this]
    congr 1
    omega)
  rw [hbs] at this
  exact this
theorem f1 (h : NsM mp j) {ip : Int} (hip : ip = 4096) : fetchM mp ip 12 [] = ⟨false, mp, iN1, 3, 0, 0, 0⟩ := h.fetch tN1 0 _ eN1 (by decide) (by decide) (by rw [hip]; rfl)
theorem f2 (h : NsM mp j) {ip : Int} (hip : ip = 4099) : fetchM mp ip 12 [] = ⟨false, mp, iN2, 3, 0, 0, 0⟩ := h.fetch tN2 3 _ eN2 (by decide) (by decide) (by rw [hip]; rfl)
theorem f3 (h : NsM mp j) {ip : Int} (hip : ip = 4102) : fetchM mp ip 12 [] = ⟨false, mp, iN3, 2, 0, 0, 0⟩ := h.fetch tN3 6 _ eN3 (by decide) (by decide) (by rw [hip]; rfl)
theorem f4 (h : NsM mp j) {ip : Int} (hip : ip = 4104) : fetchM mp ip 12 [] = ⟨false, mp, iN4, 5, 0, 0, 0⟩ := h.fetch tN4 8 _ eN4 (by decide) (by decide) (by rw [hip]; rfl)
theorem f5 (h : NsM mp j) {ip : Int} (hip : ip = 4109) : fetchM mp ip 12 [] = ⟨false, mp, iN5, 1, 0, 0, 0⟩ := h.fetch tN5 13 _ eN5 (by decide) (by decide) (by rw [hip]; rfl)
theorem ask (h : NsM mp j) {a need kind : Int} (hn : (bits .and .i64 3 need == 0) = false) (h0 : 12288 ≤ a) (h1 : a + 8 ≤ 16384) : askS mp need kind 8 a 8 = (0, 0, none) :=
  ask_ok (p := 3) (by omega) (by omega) (by rw [show a - a % 4096 = 12288 by omega]; exact h.p3) (by decide) hn (by omega)
theorem page (h : NsM mp j) {a : Int} (h0 : 12288 ≤ a) (h1 : a + 8 ≤ 16384) : ∀ i : Nat, i < 8 → (protAt mp ((a + i) - (a + i) % 4096)).isSome = true := fun i hi => by
  rw [show (a + i) - (a + i) % 4096 = 12288 by omega, h.p3]; rfl
/-- A call is pushed. -/
theorem push (h : NsM mp j) (hj : j < 511) : NsM (putP mp (16376 - 8 * ((j + 1 : Nat) : Int)) 8 (le8 4109)) (j + 1) := by
  refine ⟨h.ok.put _ 8 (fun j => byteOf_ok _ j), by rw [protAt_put]; exact h.p1, by rw [protAt_put]; exact h.p2, by rw [protAt_put]; exact h.p3, fun q hq => ?_, fun q hq => ?_, ?_, fun i i0 i1 => ?_⟩
  · rw [byteAt_put (by rw [show (4096 + (q : Int)) - (4096 + (q : Int)) % 4096 = 4096 by omega, h.p1]; rfl), if_neg (by omega)]
    exact h.code q hq
  · rw [byteAt_put (by rw [show (8192 + (q : Int)) - (8192 + (q : Int)) % 4096 = 8192 by omega, h.p2]; rfl), if_neg (by omega)]
    exact h.nou q hq
  · rw [num_put_other (h.page (by omega) (by omega)) (by omega)]
    exact h.gate
  · by_cases e : i = j + 1
    · subst e
      exact num_put_same (by omega) (by omega) (h.page (by omega) (by omega))
    · rw [num_put_other (h.page (by omega) (by omega)) (by omega)]
      exact h.num i i0 (by omega)
end NsM
/-- Code at its beginning. -/
structure NsD (n j : Nat) (s : StV) : Prop where
  ip : s.ip = 4096
  r0 : s.r 0 = j
  r1 : s.r 1 = n
  r4 : s.r 4 = 16376 - 8 * (j : Int)
/-- Code at its end. -/
structure NsU (n j : Nat) (s : StV) : Prop where
  ip : s.ip = 4109
  r0 : s.r 0 = n
  r4 : s.r 4 = 16376 - 8 * (j : Int)
section
variable {mp : Int → Option Pg} {s : StV} {fk fa : Int} {n j F : Nat}
theorem ns_up (hn : n ≤ 512) : ∀ (j : Nat) (s : StV), j < 512 → NsM mp j → NsU n j s → runM gmN (F + j + 1) mp s fk fa () = ⟨n, 0, mp, F, ()⟩
  | 0, s, _, hm, hs => by
    refine (runM_step (k := F + 0) (s' := ((nextS s 1).setR 4 16384).setIp gateA) (by rw [hs.ip]; decide) ((stepF_do (by exact hm.f5 hs.ip) (show doM iN5 (nextS s 1) mp _ = ⟨true, mp, ((nextS s 1).setR 4 16384).setIp gateA, 0, 0⟩ from by
      show rdM mp (s.r 4) (nextS s 1) (fun v => ((nextS s 1).setR 4 (addM (s.r 4))).setIp v) = _
      unfold rdM
      rw [hs.r4, show (16376 : Int) - 8 * ((0 : Nat) : Int) = 16376 from rfl, hm.ask (by decide) (by omega) (by omega), if_pos rfl, hm.gate]
      rfl)).trans rfl)).trans ?_
    rw [runM_end rfl]
    show (⟨s.r 0, 0, mp, F + 0, ()⟩ : RunR Unit) = _
    rw [hs.r0]; rfl
  | j + 1, s, hj, hm, hs => by
    have ha : addM (16376 - 8 * ((j + 1 : Nat) : Int)) = 16376 - 8 * (j : Int) := by unfold addM; omega
    refine (runM_step (k := F + j + 1) (s' := ((nextS s 1).setR 4 (16376 - 8 * (j : Int))).setIp 4109) (by rw [hs.ip]; decide) ((stepF_do (by exact hm.f5 hs.ip) (show doM iN5 (nextS s 1) mp _ = ⟨true, mp, ((nextS s 1).setR 4 (16376 - 8 * (j : Int))).setIp 4109, 0, 0⟩ from by
      show rdM mp (s.r 4) (nextS s 1) (fun v => ((nextS s 1).setR 4 (addM (s.r 4))).setIp v) = _
      unfold rdM
      rw [hs.r4, hm.ask (by decide) (by omega) (by omega), if_pos rfl, hm.num (j + 1) (by omega) (by omega), ha])).trans rfl)).trans ?_
    exact ns_up hn j _ (by omega) (hm.less (by omega)) ⟨rfl, hs.r0, rfl⟩
/-- Three steps: one more, compared, asked. -/
theorem ns_three (hm : NsM mp j) (hs : NsD n j s) (hj : j < 2000) (hn : n < 2000) : ∃ s', runM gmN (F + 3) mp s fk fa () = runM gmN F mp s' fk fa () ∧ s'.ip = (if j + 1 = n then 4109 else 4104) ∧ s'.r 0 = ((j + 1 : Nat) : Int) ∧ s'.r 1 = n ∧ s'.r 4 = 16376 - 8 * (j : Int) := by
  obtain ⟨s1, h1⟩ : ∃ t, doA iN1 (nextS s 3) = t := ⟨_, rfl⟩
  obtain ⟨s2, h2⟩ : ∃ t, doA iN2 (nextS s1 3) = t := ⟨_, rfl⟩
  have i1 : s1.ip = 4099 := by rw [← h1]; show (s.ip + (3 : Nat)) % 18446744073709551616 = _; rw [hs.ip]; rfl
  have i2 : s2.ip = 4102 := by rw [← h2]; show (s1.ip + (3 : Nat)) % 18446744073709551616 = _; rw [i1]; rfl
  have q1 : s1.r 0 = ((j + 1 : Nat) : Int) ∧ s1.r 1 = n ∧ s1.r 4 = 16376 - 8 * (j : Int) := by
    rw [← h1]
    refine ⟨?_, hs.r1, hs.r4⟩
    show (s.r 0 + 1) % 18446744073709551616 = _
    rw [hs.r0]; omega
  have q2 : s2.r 0 = ((j + 1 : Nat) : Int) ∧ s2.r 1 = n ∧ s2.r 4 = 16376 - 8 * (j : Int) ∧ s2.z = decide (j + 1 = n) := by
    rw [← h2]
    refine ⟨q1.1, q1.2.1, q1.2.2, ?_⟩
    show (IntKind.u64.wrap (s1.r 0 - s1.r 1) == 0) = _
    rw [q1.1, q1.2.1, IntKind.wrap_u64]
    by_cases c : j + 1 = n
    · rw [decide_eq_true c, c]; simp
    · rw [decide_eq_false c, beq_eq_false_iff_ne]; omega
  have e1 : runM gmN (F + 3) mp s fk fa () = runM gmN (F + 2) mp s1 fk fa () := runM_step (k := F + 2) (by rw [hs.ip]; decide) ((stepF_do (hm.f1 hs.ip) (show doM iN1 (nextS s 3) mp _ = _ from by rw [← h1]; rfl)).trans rfl)
  have e2 : runM gmN (F + 2) mp s1 fk fa () = runM gmN (F + 1) mp s2 fk fa () := runM_step (k := F + 1) (by rw [i1]; decide) ((stepF_do (hm.f2 i1) (show doM iN2 (nextS s1 3) mp _ = _ from by rw [← h2]; rfl)).trans rfl)
  have hne : nearM (nextS s2 2) iN3 = 4109 := by
    show ((s2.ip + (2 : Nat)) % 18446744073709551616 + 5) % 18446744073709551616 = 4109
    rw [i2]; rfl
  by_cases c : j + 1 = n
  · have e3 : runM gmN (F + 1) mp s2 fk fa () = runM gmN F mp ((nextS s2 2).setIp 4109) fk fa () := runM_step (k := F) (by rw [i2]; decide) ((stepF_do (hm.f3 i2) (show doM iN3 (nextS s2 2) mp _ = ⟨true, mp, (nextS s2 2).setIp 4109, 0, 0⟩ from by
      show okM mp (if condM 4 (nextS s2 2) = true then (nextS s2 2).setIp (nearM (nextS s2 2) iN3) else nextS s2 2) = _
      have hc : condM 4 (nextS s2 2) = true := by
        show s2.z = true
        rw [q2.2.2.2, decide_eq_true c]
      rw [hne, if_pos hc]; rfl)).trans rfl)
    exact ⟨_, e1.trans (e2.trans e3), by rw [if_pos c]; rfl, q2.1, q2.2.1, q2.2.2.1⟩
  · have e3 : runM gmN (F + 1) mp s2 fk fa () = runM gmN F mp (nextS s2 2) fk fa () := runM_step (k := F) (by rw [i2]; decide) ((stepF_do (hm.f3 i2) (show doM iN3 (nextS s2 2) mp _ = ⟨true, mp, nextS s2 2, 0, 0⟩ from by
      show okM mp (if condM 4 (nextS s2 2) = true then (nextS s2 2).setIp (nearM (nextS s2 2) iN3) else nextS s2 2) = _
      have hc : ¬ condM 4 (nextS s2 2) = true := by
        show ¬ s2.z = true
        rw [q2.2.2.2, decide_eq_false c]; simp
      rw [if_neg hc]; rfl)).trans rfl)
    refine ⟨_, e1.trans (e2.trans e3), ?_, q2.1, q2.2.1, q2.2.2.1⟩
    rw [if_neg c]
    show (s2.ip + (2 : Nat)) % 18446744073709551616 = _
    rw [i2]; rfl
theorem ns_call {s : StV} {j : Nat} (h4 : s.r 4 = 16376 - 8 * (j : Int)) (hip : s.ip = 4104) (hj : j < 2000) : (nextS s 5).ip = 4109 ∧ subM ((nextS s 5).r 4) = 16376 - 8 * ((j + 1 : Nat) : Int) ∧ nearM (nextS s 5) iN4 = 4096 := by
  have hi : (nextS s 5).ip = 4109 := by
    show (s.ip + (5 : Nat)) % 18446744073709551616 = 4109
    rw [hip]; rfl
  refine ⟨hi, ?_, ?_⟩
  · show subM (s.r 4) = _
    rw [h4]; unfold subM; omega
  · show ((nextS s 5).ip + (-13)) % 18446744073709551616 = 4096
    rw [hi]; rfl
/-- Down and up again. -/
theorem ns_down (hn : n ≤ 512) : ∀ (d j : Nat) (mp : Int → Option Pg) (s : StV), j + d + 1 = n → NsM mp j → NsD n j s → ∃ mp', NsM mp' 0 ∧ runM gmN (F + 4 * d + 3 + (j + d + 1)) mp s fk fa () = ⟨n, 0, mp', F, ()⟩
  | 0, j, mp, s, hjd, hm, hs => by
    obtain ⟨s', e, i, r0, r1, r4⟩ := ns_three (F := F + j + 1) (fk := fk) (fa := fa) hm hs (by omega) (by omega)
    rw [if_pos (by omega)] at i
    refine ⟨mp, hm.less (by omega), ?_⟩
    rw [show F + 4 * 0 + 3 + (j + 0 + 1) = F + j + 1 + 3 by omega, e]
    exact ns_up hn j s' (by omega) hm ⟨i, by rw [r0]; omega, r4⟩
  | d + 1, j, mp, s, hjd, hm, hs => by
    obtain ⟨s', e, i, r0, r1, r4⟩ := ns_three (F := F + 4 * d + 3 + (j + 1 + d + 1) + 1) (fk := fk) (fa := fa) hm hs (by omega) (by omega)
    rw [if_neg (by omega)] at i
    obtain ⟨c1, c2, c3⟩ := ns_call r4 i (by omega)
    have hp := hm.push (by omega)
    obtain ⟨mp', hm', e'⟩ := ns_down hn d (j + 1) (putP mp (16376 - 8 * ((j + 1 : Nat) : Int)) 8 (le8 4109)) (((nextS s' 5).setR 4 (16376 - 8 * ((j + 1 : Nat) : Int))).setIp 4096) (by omega) hp ⟨rfl, r0, r1, rfl⟩
    refine ⟨mp', hm', ?_⟩
    rw [show F + 4 * (d + 1) + 3 + (j + (d + 1) + 1) = F + 4 * d + 3 + (j + 1 + d + 1) + 1 + 3 by omega, e]
    refine (runM_step (k := F + 4 * d + 3 + (j + 1 + d + 1)) (s' := ((nextS s' 5).setR 4 (16376 - 8 * ((j + 1 : Nat) : Int))).setIp 4096) (by rw [i]; decide) ((stepF_do (hm.f4 i) (show doM iN4 (nextS s' 5) mp _ = ⟨true, putP mp (16376 - 8 * ((j + 1 : Nat) : Int)) 8 (le8 4109), ((nextS s' 5).setR 4 (16376 - 8 * ((j + 1 : Nat) : Int))).setIp 4096, 0, 0⟩ from by
      show wrM mp (subM ((nextS s' 5).r 4)) (nextS s' 5).ip (nextS s' 5) (((nextS s' 5).setR 4 (subM ((nextS s' 5).r 4))).setIp (nearM (nextS s' 5) iN4)) = _
      unfold wrM
      rw [c1, c2, c3, hm.ask (by decide) (by omega) (by omega), if_pos rfl])).trans rfl)).trans ?_
    exact e'
/-- Down till the stack ends. -/
theorem ns_falls (hn : 512 < n) (hn2 : n < 2000) : ∀ (d j : Nat) (mp : Int → Option Pg) (s : StV), j + d = 511 → NsM mp j → NsD n j s → ∃ mp' k, NsM mp' 0 ∧ k ≤ F + 4 * d + 4 ∧ runM gmN (F + 4 * d + 4) mp s fk fa () = ⟨0, 17, mp', k, ()⟩
  | 0, j, mp, s, hjd, hm, hs => by
    obtain ⟨s', e, i, r0, r1, r4⟩ := ns_three (F := F + 1) (fk := fk) (fa := fa) hm hs (by omega) (by omega)
    rw [if_neg (by omega)] at i
    obtain ⟨c1, c2, c3⟩ := ns_call r4 i (by omega)
    refine ⟨mp, F, hm.less (by omega), by omega, ?_⟩
    rw [show F + 4 * 0 + 4 = F + 1 + 3 by omega, e]
    have hask : askS mp 2 3 8 12280 8 = (3, 12280, none) := by
      have hp := hm.p2
      unfold protAt at hp
      cases hmm : mp 8192 with
      | none => rw [hmm] at hp; cases hp
      | some g =>
        rw [hmm] at hp
        injection hp with hp
        replace hp : g.prot = 1 := hp
        unfold askS
        rw [if_neg (by decide), show (12280 : Int) - 12280 % 4096 = 8192 from by decide, hmm]
        simp only
        rw [hp, if_neg (by decide), if_pos (by decide)]
    exact runM_fault (k := F) (by rw [i]; decide) (stepF_no (hm.f4 i) (show doM iN4 (nextS s' 5) mp _ = ⟨false, mp, nextS s' 5, 3, 12280⟩ from by
      show wrM mp (subM ((nextS s' 5).r 4)) (nextS s' 5).ip (nextS s' 5) (((nextS s' 5).setR 4 (subM ((nextS s' 5).r 4))).setIp (nearM (nextS s' 5) iN4)) = _
      unfold wrM
      rw [c1, c2, c3, show (16376 : Int) - 8 * ((j + 1 : Nat) : Int) = 12280 by omega, hask, if_neg (by simp)]
      rfl)) (by decide)
  | d + 1, j, mp, s, hjd, hm, hs => by
    obtain ⟨s', e, i, r0, r1, r4⟩ := ns_three (F := F + 4 * d + 4 + 1) (fk := fk) (fa := fa) hm hs (by omega) (by omega)
    rw [if_neg (by omega)] at i
    obtain ⟨c1, c2, c3⟩ := ns_call r4 i (by omega)
    have hp := hm.push (by omega)
    obtain ⟨mp', k, hm', hk, e'⟩ := ns_falls hn hn2 d (j + 1) (putP mp (16376 - 8 * ((j + 1 : Nat) : Int)) 8 (le8 4109)) (((nextS s' 5).setR 4 (16376 - 8 * ((j + 1 : Nat) : Int))).setIp 4096) (by omega) hp ⟨rfl, r0, r1, rfl⟩
    refine ⟨mp', k, hm', by omega, ?_⟩
    rw [show F + 4 * (d + 1) + 4 = F + 4 * d + 4 + 1 + 3 by omega, e]
    refine (runM_step (k := F + 4 * d + 4) (s' := ((nextS s' 5).setR 4 (16376 - 8 * ((j + 1 : Nat) : Int))).setIp 4096) (by rw [i]; decide) ((stepF_do (hm.f4 i) (show doM iN4 (nextS s' 5) mp _ = ⟨true, putP mp (16376 - 8 * ((j + 1 : Nat) : Int)) 8 (le8 4109), ((nextS s' 5).setR 4 (16376 - 8 * ((j + 1 : Nat) : Int))).setIp 4096, 0, 0⟩ from by
      show wrM mp (subM ((nextS s' 5).r 4)) (nextS s' 5).ip (nextS s' 5) (((nextS s' 5).setR 4 (subM ((nextS s' 5).r 4))).setIp (nearM (nextS s' 5) iN4)) = _
      unfold wrM
      rw [c1, c2, c3, hm.ask (by decide) (by omega) (by omega), if_pos rfl])).trans rfl)).trans ?_
    exact e'
end
end Go.Proofs.Ythbgmlmcjnlopaa
namespace Go.Proofs.Ythbgmlmcjnlopaa
open Go.ChangeShapes Go.WideShapes Go.ChangeAt Go.RowKit
set_option linter.unusedVariables false
set_option linter.unusedSimpArgs false
set_option maxRecDepth 100000

theorem infoU8K : (Try.prog.info? 5).map (fun i => (i.zero, i.size, i.bytes)) = some (some (.int .u8 0), 1, 1) := by kernel_rfl
/-- So many noughts as a text. -/
def noughtS (n : Nat) : ByteArray := strF (fun _ => 0) 0 n
theorem str_noughts {w : World} {g n cap : Nat} {f : Nat → Int} (h : Own w g n (fun q => .int .u8 (f q))) (hf : ∀ q, q < n → f q = 0) :
    (convert 24 9 (.slice (some ⟨g, 0, none⟩) n cap)).run Try.prog w = .ok (.string (noughtS n)) w :=
  run_str (f := fun _ => 0) (fun i hi => by rw [show (0 : Nat) + i = i by omega, (h.2 i hi).1]; show some (Value.int .u8 (f i)) = _; rw [hf i hi])
theorem made_noughts (W : World) (n : Nat) (h0 : 0 < n) (hn : n ≤ 65536) : ∃ w', (Instr.makeSlice 24 (.int .i64 (n : Int)) (.int .i64 (n : Int))).run Try.prog W = .ok (.slice (some ⟨W.heap.size, 0, none⟩) n n) w' ∧ W.grownBy w' none ∧ Own w' W.heap.size n (fun _ => .int .u8 0) := by
  obtain ⟨i, hi, hz0, hz1, hz2⟩ := info_parts infoU8K
  obtain ⟨w', h1, h2, h3⟩ := run_make_full (P := Try.prog) (w := W) W.heap.size 24 5 i (.int .u8 0) 1 Try.underlying24 hi hz0 hz1 .i64 .i64 n (by rw [hz2]; omega) (by unfold maxLen; omega) (Nat.le_refl _)
  refine ⟨w', h1, h3, ?_⟩
  obtain ⟨g', hA, _, ho⟩ := Own.of_own (f := fun _ => .int .u8 0) h2 h0 (fun i hi => by
    show (madeCells #[Value.int .u8 0] (n * 1)).toList[i]? = _
    rw [toList_madeCells_one, List.getElem?_replicate, if_pos (by omega)])
  injection hA with hA
  injection hA with hA
  subst hA
  exact ho
theorem made_mk (n : Nat) (h0 : 0 < n) (hn : n ≤ 65536) : ∃ mk : World → World, ∀ W : World, (Instr.makeSlice 24 (.int .i64 (n : Int)) (.int .i64 (n : Int))).run Try.prog W = .ok (.slice (some ⟨W.heap.size, 0, none⟩) n n) (mk W) ∧ Below W.heap.size W (mk W) ∧ (mk W).heap.size = (mk W).heap.size ∧
    (convert 24 9 (.slice (some ⟨W.heap.size, 0, none⟩) n n)).run Try.prog (mk W) = .ok (.string (noughtS n)) (mk W) :=
  ⟨fun W => (made_noughts W n h0 hn).choose, fun W => ⟨(made_noughts W n h0 hn).choose_spec.1, ⟨(made_noughts W n h0 hn).choose_spec.2.1.os, (made_noughts W n h0 hn).choose_spec.2.1.tape, (made_noughts W n h0 hn).choose_spec.2.1.output, (made_noughts W n h0 hn).choose_spec.2.1.size, fun i hi => (made_noughts W n h0 hn).choose_spec.2.1.block i hi (by simp)⟩, rfl, str_noughts (made_noughts W n h0 hn).choose_spec.2.2 (fun _ _ => rfl)⟩⟩
end Go.Proofs.Ythbgmlmcjnlopaa
namespace Go.Proofs.Ythbgmlmcjnlopaa
open Go.ChangeShapes Go.WideShapes Go.ChangeAt Go.RowKit
set_option linter.unusedVariables false
set_option linter.unusedSimpArgs false
set_option maxRecDepth 100000

theorem nested1_any (n : Int) (C : Nat) (w : World) : Calls Try.prog 38 #[.int .i64 n, .pointer (some ⟨C, 0, none⟩)] w fun e w' => e = .returned (.bool false) ∧ w' = w := by
  go_enter Try.func38, Try.ntmps38
  go_wp2
  go_ret
  exact ⟨rfl, rfl⟩
/-- A gate answers. -/
theorem pass_nested (n : Int) (C P : Nat) (w : World) (b : Bool) (G : World → Prop)
    (hG : ∀ w1, G w1 → w1.heap[w.heap.size]? = some (.cells #[.bool false] 4 (0, 0)))
    (hc : Calls Try.prog 38 #[.int .i64 n, .pointer (some ⟨C, 0, none⟩)] (w.alloc (.cells #[.bool false] 4)) fun e w1 => e = .returned (.bool b) ∧ G w1) :
    Calls Try.prog 56 #[.func (.func 38) #[] #[], .int .i64 n, .pointer (some ⟨C, 0, none⟩)] w fun e w' => e = .returned (.bool b) ∧ ∃ w1, G w1 ∧ w' = w1.setCell ⟨w.heap.size, 0, none⟩ (.bool b) := by
  have hmf : ∀ (fn : Fn) (first cap : Array Value) (w : World), (Instr.makeFunc fn first cap).run Try.prog w = .ok (.func fn first cap) w := fun _ _ _ _ => rfl
  have hq := neq_gate (.func 38) #[] #[]
  have HG := Lib.hid hG
  have HC := Lib.hid hc
  clear hG hc
  go_enter_defers Try.func56, Try.ntmps56
  go_wp2_with fail
  refine HC.out.mono ?_
  rintro e w1 ⟨rfl, hg1⟩
  have H1 := Lib.hid hg1
  have hz1 := HG.out w1 hg1
  have cR : w1.cell? ⟨w.heap.size, 0, none⟩ = some (.bool false) := by rw [cell_of_row' hz1]; rfl
  have zR : w1.frozen? ⟨w.heap.size, 0, none⟩ = false := by simp [World.frozen?, hz1]
  clear hz1 hg1 HC HG
  go_wp2
  refine leaves_cons (f := 72) (args := #[.pointer (some ⟨w.heap.size, 0, none⟩)]) (by simp) (by simp [go_sem]) ?_
  refine (pass1_idle ⟨w.heap.size, 0, none⟩ _).mono ?_
  rintro e u' w'' ⟨rfl, rfl, rfl⟩
  have hres : (w1.setCell ⟨w.heap.size, 0, none⟩ (.bool b)).cell? ⟨w.heap.size, 0, none⟩ = some (.bool b) := World.cell?_setCell_same _ _ _ cR
  clear cR zR
  have HE := Lib.hid (show ∃ w2, G w2 ∧ w1.setCell ⟨w.heap.size, 0, none⟩ (.bool b) = w2.setCell ⟨w.heap.size, 0, none⟩ (.bool b) from ⟨w1, H1.out, rfl⟩)
  generalize w1.setCell ⟨w.heap.size, 0, none⟩ (.bool b) = w4 at *
  simp [Leaves, settle, results, Try.results56, go_sem, hres]
  exact HE.out
theorem gate_nested (w0 : World) (M m : Nat) (most : Int) : GateOk (.func (.func 38) #[] #[]) gmN (fun _ _ => True) (fun _ => False) w0 M m most := by
  refine ⟨fun R W C mp s fk fa n e hb _ _ => ?_, fun _ _ _ _ _ => trivial⟩
  have hb1 := hb.alloc (.cells #[.bool false] 4)
  have hz1 := heap_alloc_new W (.cells #[.bool false] 4)
  have hl1 : W.heap.size < (W.alloc (.cells #[.bool false] 4)).heap.size := by simp
  have hcl := hb.lt C hb.rC
  have hw0 := hb.kept.size
  have hbel : Below W.heap.size W (W.alloc (.cells #[.bool false] 4)) := (Below.refl _ _).alloc (Nat.le_refl _) _
  refine (pass_nested n C 0 W false (fun w1 => w1 = W.alloc (.cells #[.bool false] 4)) (fun w1 h => by rw [h]; exact hz1) (nested1_any n C _)).mono ?_
  rintro en W' ⟨rfl, w1, rfl, rfl⟩
  refine ⟨rfl, _, hb1.setFar (o := 0) (.inr ⟨Nat.le_refl _, hl1⟩) (by omega) hw0 (.bool false), trivial, fun k hk => .inl hk, ?_⟩
  exact (Kept.of_below (R := fun k => R k ∧ k ≠ C ∧ ¬ False) hbel (fun q hq => hb.lt q hq.1)).setCell (p := ⟨W.heap.size, 0, none⟩) (fun hq => Nat.lt_irrefl _ (hb.lt _ hq.1)) (.bool false)
theorem call_nested (R : Nat → Prop) (w0 w : World) (M m : Nat) (most : Int) (mp : Int → Option Pg) (h : Mem0 R w0 w M m most mp) (at' sp a0 a1 a2 : Int) (hat : 0 ≤ at' ∧ at' < 18446744073709551616) (hsp : 0 ≤ sp ∧ sp < 18446744073709551616)
    (h0 : 0 ≤ a0 ∧ a0 < 18446744073709551616) (h1 : 0 ≤ a1 ∧ a1 < 18446744073709551616) (h2 : 0 ≤ a2 ∧ a2 < 18446744073709551616) (Fg k : Nat) (hF : FuelN w Fg k) (hRF : R Fg) (hk : k ≤ 9223372036854775807) (hF0 : w0.heap.size ≤ Fg)
    (o : RunR Unit) (ho : callM gmN mp at' sp a0 a1 a2 k () = o) :
    Calls Try.prog 31 #[.pointer (some ⟨M, 0, none⟩), .int .u64 at', .int .u64 sp, .agg #[.int .u64 a0, .int .u64 a1, .int .u64 a2], .pointer (some ⟨Fg, 0, none⟩), .func (.func 38) #[] #[]] w fun en w' => en = .returned (.tuple #[.int .u64 o.v, .int .i64 o.e]) ∧ ∃ R', Mem0 R' w0 w' M m most o.mp ∧ (∀ q, R q → R' q) ∧ FuelN w' Fg o.k ∧ Kept (fun q => R q ∧ q ≠ Fg) w w' := by
  refine (call_any R w0 w M m most mp h at' sp a0 a1 a2 hat hsp h0 h1 h2 Fg k hF hRF hk hF0 _ gmN (fun _ _ => True) (fun _ => False) (gate_nested w0 M m most) (fun q hq => hq.elim) () trivial rfl o ho).mono fun en w' hq => ⟨hq.1, ?_⟩
  obtain ⟨R', h1, h2⟩ := hq.2.ex
  exact ⟨R', h1, h2, hq.2.fuel, hq.2.kept.mono (fun q hq => ⟨hq.1, hq.2, fun h => h⟩)⟩
def mpN0 : Int → Option Pg := putP (setP (setP (setP noM 4096 4 1) 8192 1 1) 12288 3 1) 4096 14 (fun i => bF codN17 i)
def mpN00 : Int → Option Pg := setP (setP (setP noM 4096 4 1) 8192 1 1) 12288 3 1
theorem mpN00_1 : mpN00 4096 = some ⟨4, fun _ => 0⟩ := by kernel_rfl
theorem mpN00_2 : mpN00 8192 = some ⟨1, fun _ => 0⟩ := by kernel_rfl
theorem mpN00_3 : mpN00 12288 = some ⟨3, fun _ => 0⟩ := by kernel_rfl
theorem prN0 {p q : Int} {d : Nat → Int} (h : mpN00 p = some ⟨q, d⟩) : protAt mpN0 p = some q := by
  show protAt (putP mpN00 4096 14 _) p = _
  rw [protAt_put]
  unfold protAt
  rw [h]; rfl
theorem nsM_start (ho : MpOk mpN0) : NsM (putP mpN0 16376 8 (le8 gateA)) 0 := by
  have p1 := prN0 mpN00_1
  have p2 := prN0 mpN00_2
  have p3 := prN0 mpN00_3
  have hb : ∀ {x : Int} {g : Pg} {p : Int}, mpN00 p = some g → x - x % 4096 = p → byteAt mpN00 x = g.dat (x % 4096).toNat := fun h hx => by unfold byteAt; rw [hx, h]
  refine ⟨ho.put _ 8 (fun j => byteOf_ok _ j), by rw [protAt_put]; exact p1, by rw [protAt_put]; exact p2, by rw [protAt_put]; exact p3, fun q hq => ?_, fun q hq => ?_, ?_, fun i i0 i1 => by omega⟩
  · rw [byteAt_put (by rw [show (4096 + (q : Int)) - (4096 + (q : Int)) % 4096 = 4096 by omega, p1]; rfl), if_neg (by omega)]
    show byteAt (putP mpN00 4096 14 (fun i => bF codN17 i)) (4096 + q) = _
    rw [byteAt_put (by rw [show (4096 + (q : Int)) - (4096 + (q : Int)) % 4096 = 4096 by omega]; unfold protAt; rw [mpN00_1]; rfl), if_pos (by omega), show (4096 + (q : Int) - 4096).toNat = q by omega]
  · rw [byteAt_put (by rw [show (8192 + (q : Int)) - (8192 + (q : Int)) % 4096 = 8192 by omega, p2]; rfl), if_neg (by omega)]
    show byteAt (putP mpN00 4096 14 (fun i => bF codN17 i)) (8192 + q) = _
    rw [byteAt_put (by rw [show (8192 + (q : Int)) - (8192 + (q : Int)) % 4096 = 8192 by omega]; unfold protAt; rw [mpN00_2]; rfl), if_neg (by omega), hb mpN00_2 (by omega)]
  · exact num_put_same (by decide) (by decide) (fun j hj => by rw [show ((16376 : Int) + j) - (16376 + j) % 4096 = 12288 by omega, p3]; rfl)
theorem callN_ok (ho : MpOk mpN0) (n : Nat) (h1 : 1 ≤ n) (h2 : n ≤ 512) : ∃ mp', NsM mp' 0 ∧ callM gmN mpN0 4096 16384 n 0 0 1048576 () = ⟨n, 0, mp', 1048576 - (5 * n - 1), ()⟩ := by
  have hw : wrM mpN0 (subM 16384) gateA st0 st0 = ⟨true, putP mpN0 16376 8 (le8 gateA), st0, 0, 0⟩ := by
    show wrM mpN0 16376 gateA st0 st0 = _
    unfold wrM
    rw [if_pos (by rw [ask_ok (p := 3) (by omega) (by omega) (prN0 mpN00_3) (by decide) (by decide) (by decide)])]
  obtain ⟨mp', hm, he⟩ := ns_down (F := 1048576 - (5 * n - 1)) (fk := 0) (fa := 0) h2 (n - 1) 0 _ (startS 4096 16384 n 0 0) (by omega) (nsM_start ho) ⟨rfl, rfl, rfl, rfl⟩
  refine ⟨mp', hm, ?_⟩
  rw [callM_start hw, ← he]
  congr 1
  omega
theorem callN_no (ho : MpOk mpN0) (n : Nat) (h1 : 512 < n) (h2 : n ≤ 1024) : ∃ mp' k, NsM mp' 0 ∧ k ≤ 1048576 ∧ callM gmN mpN0 4096 16384 n 0 0 1048576 () = ⟨0, 17, mp', k, ()⟩ := by
  have hw : wrM mpN0 (subM 16384) gateA st0 st0 = ⟨true, putP mpN0 16376 8 (le8 gateA), st0, 0, 0⟩ := by
    show wrM mpN0 16376 gateA st0 st0 = _
    unfold wrM
    rw [if_pos (by rw [ask_ok (p := 3) (by omega) (by omega) (prN0 mpN00_3) (by decide) (by decide) (by decide)])]
  obtain ⟨mp', k, hm, hk, he⟩ := ns_falls (F := 1046528) (fk := 0) (fa := 0) h1 (by omega) 511 0 _ (startS 4096 16384 n 0 0) (by omega) (nsM_start ho) ⟨rfl, rfl, rfl, rfl⟩
  exact ⟨mp', k, hm, by omega, by rw [callM_start hw]; exact he⟩
set_option maxHeartbeats 4000000 in
theorem nested_core (w : World) (n : Int) :
    Calls Try.prog 12 #[.int .i64 n] w fun e w' => e = .returned (.bool true) ∧ Below w.heap.size w w' := by
  obtain ⟨q, hq⟩ : ∃ q, bits .and .i64 n 1023 = q := ⟨_, rfl⟩
  have hqb : 0 ≤ q ∧ q ≤ 1023 := by rw [← hq, show (1023 : Int) = ((2 ^ 10 - 1 : Nat) : Int) from by decide, i64_mask n 10 (by omega)]; omega
  obtain ⟨N, hN⟩ : ∃ N : Nat, q + 1 = N := ⟨(q + 1).toNat, by omega⟩
  have hN1 : 1 ≤ N ∧ N ≤ 1024 := by omega
  have HNB := Lib.hid hN1
  go_enter Try.func12, Try.ntmps12
  go_wp2_with fail
  refine (encS tN1 _ eN1 (by decide) _).mono ?_
  rintro e w2 ⟨S1, rfl, h1, (hz1 : S1.size = 3), hb1⟩
  have HS1 := Lib.hid h1
  have HB1 := Lib.hid hb1
  clear h1 hb1
  go_wp2_with fail
  refine (encS tN2 _ eN2 (by decide) _).mono ?_
  rintro e w3 ⟨S2, rfl, h2, (hz2 : S2.size = 3), hb2⟩
  have HS2 := Lib.hid h2
  have HB2 := Lib.hid (HB1.out.trans (hb2.mono HB1.out.size))
  clear h2 hb2
  go_wp2_with fail
  refine (encS tN3 _ eN3 (by decide) _).mono ?_
  rintro e w4 ⟨S3, rfl, h3, (hz3 : S3.size = 2), hb3⟩
  have HS3 := Lib.hid h3
  have HB3 := Lib.hid (HB2.out.trans (hb3.mono HB2.out.size))
  clear h3 hb3
  go_wp2_with fail
  refine (encS tN4 _ eN4 (by decide) _).mono ?_
  rintro e w5 ⟨S4, rfl, h4, (hz4 : S4.size = 5), hb4⟩
  have HS4 := Lib.hid h4
  have HB4 := Lib.hid (HB3.out.trans (hb4.mono HB3.out.size))
  clear h4 hb4 HB1 HB2 HB3
  have hq1 : (⟨#[195]⟩ : ByteArray) = txN [195] := rfl
  obtain ⟨S, hS⟩ : ∃ S, S1 ++ S2 ++ S3 ++ S4 ++ txN [195] = S := ⟨_, rfl⟩
  have hSe : S = txN codN17 := by rw [← hS, HS1.out, HS2.out, HS3.out, HS4.out, txN_cat, txN_cat, txN_cat, txN_cat]; rfl
  have hSz : S.size = 14 := by rw [hSe, txN_size]; rfl
  have HSE := Lib.hid hSe
  clear hSe
  go_wp2_with fail
  refine (mem0_new w5 3 (by omega) (by omega)).mono ?_
  rintro e w6 ⟨M, rfl, h6⟩
  have H6 := Lib.hid h6
  clear h6
  go_wp2_with fail
  refine (mem0_map H6.out 4096 4 1 (by omega) ⟨by decide, by omega, by omega, by omega⟩ (by omega) (by omega) (fun i _ => rfl) (by omega) (by omega)).mono ?_
  rintro e w7 ⟨rfl, h7⟩
  have H7 := Lib.hid h7
  clear h7 H6
  go_wp2_with fail
  refine (mem0_map H7.out 8192 1 1 (by omega) ⟨by decide, by omega, by omega, by omega⟩ (by omega) (by omega) (fun i hi => by (obtain rfl : i = 0 := by omega); kernel_rfl) (by omega) (by omega)).mono ?_
  rintro e w8 ⟨rfl, h8⟩
  have H8 := Lib.hid h8
  clear h8 H7
  go_wp2_with fail
  refine (mem0_map H8.out 12288 3 1 (by omega) ⟨by decide, by omega, by omega, by omega⟩ (by omega) (by omega) (fun i hi => by (obtain rfl : i = 0 := by omega); kernel_rfl) (by omega) (by omega)).mono ?_
  rintro e w9 ⟨rfl, h9⟩
  have H9 := Lib.hid h9
  clear h9 H8
  obtain ⟨Cv, wv, hcv, hov, hbv, hc1, hc2⟩ := conv_txN w9 codN17 (by unfold Bn; decide) (by decide)
  rw [← HSE.out] at hcv
  have HOV := Lib.hid hov
  have HC := Lib.hid (And.intro hc1 hc2)
  have HV := Lib.hid (H9.out.below hbv)
  clear hov hbv hc1 hc2
  go_wp2_with fail
  refine (mem0_poke HV.out 4096 _ 14 Cv (fun i => bF codN17 i) (by omega) (by omega) (by omega) HC.out.1 HC.out.2 (fun j j0 j1 => ?_) (.inr ⟨w9.heap.size, 0, rfl, .inr ⟨Nat.le_refl _, HOV.out.1⟩, fun j hj => by rw [Nat.zero_add, HOV.out.cell hj]⟩) (bn_bd' (by unfold Bn; decide))).mono ?_
  · rw [show (4096 : Int) + j - (4096 + j) % 4096 = 4096 by omega]
    exact fun h => absurd h (by decide)
  rintro e w10 ⟨rfl, h10, _⟩
  have H10 := Lib.hid (show Mem0 _ w5 w10 M (0 + 1 + 1 + 1) 3 mpN0 from h10)
  clear h10 hcv HOV HC HV H9
  --M1
  go_wp2_with fail
  refine (newFuel_any w10 1048576 (by omega)).mono ?_
  rintro e w11 ⟨rfl, hb11, hf11⟩
  obtain ⟨R11, h11, hr11, _, hg11⟩ := fuel_in H10.out hb11 hf11
  have H11 := Lib.hid h11
  have HR11 := Lib.hid (And.intro hr11 hg11)
  have HF11 := Lib.hid (show FuelN w11 w10.heap.size 1048576 from hf11)
  generalize w10.heap.size = Fg at *
  clear hb11 hf11 h11 hr11 hg11 H10
  have hmo : MpOk mpN0 := H11.out.ok
  have HO := Lib.hid (show ∃ (v e : Int) (mp' : Int → Option Pg) (k : Nat), NsM mp' 0 ∧ k ≤ 1048576 ∧ callM gmN mpN0 4096 16384 N 0 0 1048576 () = ⟨v, e, mp', k, ()⟩ ∧ ((512 < N ∧ v = 0 ∧ e = 17) ∨ (N ≤ 512 ∧ v = N ∧ e = 0 ∧ k = 1048576 - (5 * N - 1))) from by
    by_cases c : N ≤ 512
    · obtain ⟨mp', a, b⟩ := callN_ok hmo N hN1.1 c
      exact ⟨_, _, _, _, a, by omega, b, .inr ⟨c, rfl, rfl, rfl⟩⟩
    · obtain ⟨mp', k, a, hk, b⟩ := callN_no hmo N (by omega) hN1.2
      exact ⟨_, _, _, _, a, hk, b, .inl ⟨by omega, rfl, rfl⟩⟩)
  obtain ⟨v, er, mp', k, hnm, hkb, hcall, hcase⟩ := HO.out
  have HNM := Lib.hid hnm
  have HKB := Lib.hid hkb
  have HCA := Lib.hid hcase
  have HCALL := Lib.hid hcall
  clear hmo HO hnm hkb hcase hcall
  go_wp2_with fail
  refine (call_nested R11 w5 w11 M _ 3 mpN0 H11.out 4096 16384 N 0 0 (by omega) (by omega) (by omega) (by omega) (by omega) Fg 1048576 HF11.out HR11.out.1 (by omega) HR11.out.2 _ HCALL.out).mono ?_
  rintro e w12 ⟨rfl, R12, h12, hs12, hf12, hk12⟩
  have H12 := Lib.hid (show Mem0 R12 w5 w12 M _ 3 mp' from h12)
  have HF12 := Lib.hid (show FuelN w12 Fg k from hf12)
  clear h12 hs12 hf12 hk12 H11 HF11
  --M2
  go_wp2_with fail
  refine (peek_yes R12 w12 M (0 + 1 + 1 + 1) 3 mp' 8192 4096 (by omega) (by omega) (by omega) (fun i i0 i1 => by
    have := HNM.out.p2
    rw [show (8192 : Int) + i - (8192 + i) % 4096 = 8192 by omega]
    intro h
    unfold protAt at this
    rw [h] at this
    cases this) H12.out.mem).mono ?_
  rintro e w13 ⟨rfl, hb13, ho13⟩
  have H13 := Lib.hid (H12.out.below hb13)
  have HF13 := Lib.hid (HF12.out.blw hb13)
  have HP13 := Lib.hid ho13
  generalize w12.heap.size = g1 at *
  clear hb13 ho13 H12 HF12
  have HSB := Lib.hid (fun (W : World) (hW : Below w13.heap.size w13 W) => show (convert 24 9 (.slice (some ⟨g1, 0, none⟩) (4096 : Nat) 4096)).run Try.prog W = .ok (.string (noughtS 4096)) W from
    str_noughts (HP13.out.blw hW) (fun q hq => HNM.out.nou q hq))
  obtain ⟨mk2, hmk2⟩ := made_mk 4096 (by omega) (by omega)
  have p2 : ((noughtS 4096).toList == (noughtS 4096).toList) = true := by simp
  have m2 := (hmk2 w13.drew).1
  have b2 := (hmk2 w13.drew).2.1
  have s2 := (hmk2 w13.drew).2.2.2
  rw [show w13.drew.heap.size = w13.heap.size from rfl] at m2 b2 s2
  generalize mk2 w13.drew = w14 at *
  simp only [Int.cast_ofNat_Int] at m2
  have HS14 := Lib.hid (show Below w13.heap.size w13 w14 from (Below.refl _ _).drew.trans b2)
  clear b2 hmk2
  go_upto_region 11 with (fail)
  --M3
  have HS := Lib.hid (show Below w13.heap.size w13 w13.drew from (Below.refl _ _).drew)
  refine wp_region_noPanic ?_
  refine wp_region_K (fun W => Below w13.heap.size w13 W) (fun _ => True) 99 (by kernel_rfl) ?_
  refine wpAnyK_take (i := 0) (oi := ?_) (v := ?_) ?_ (by kernel_rfl) (by kernel_rfl) (by kernel_rfl) (fun _ _ _ h => h) (by decide) ?_ HS.out (fun _ => trivial) ?_
  rotate_left 2
  · (simp only [List.getElem?_toArray, List.getElem?_cons_succ, List.getElem?_cons_zero]; rfl)
  · (first | exact Or.inr ⟨by rfl, rfl⟩ | (refine Or.inl ⟨by rfl, ?_⟩; intro W hSw; clear hSw; go_simp; try with_reducible rfl))
  try simp only [Act.put, List.setIfInBounds_toArray, List.set_cons_zero, List.set_cons_succ]
  refine wpAnyK_take (i := 1) (oi := ?_) (v := ?_) ?_ (by kernel_rfl) (by kernel_rfl) (by kernel_rfl) (fun _ _ _ h => h) (by decide) ?_ HS.out (fun _ => trivial) ?_
  rotate_left 2
  · (simp only [List.getElem?_toArray, List.getElem?_cons_succ, List.getElem?_cons_zero]; rfl)
  · (first | exact Or.inr ⟨by rfl, rfl⟩ | (refine Or.inl ⟨by rfl, ?_⟩; intro W hSw; clear hSw; go_simp; try with_reducible rfl))
  try simp only [Act.put, List.setIfInBounds_toArray, List.set_cons_zero, List.set_cons_succ]
  refine wpAnyK_take (i := 2) (oi := ?_) (v := ?_) ?_ (by kernel_rfl) (by kernel_rfl) (by kernel_rfl) (fun _ _ _ h => h) (by decide) ?_ HS.out (fun _ => trivial) ?_
  rotate_left 2
  · (simp only [List.getElem?_toArray, List.getElem?_cons_succ, List.getElem?_cons_zero]; rfl)
  · (first | exact Or.inr ⟨by rfl, rfl⟩ | (refine Or.inl ⟨by rfl, ?_⟩; intro W hSw; clear hSw; go_simp; try with_reducible rfl))
  try simp only [Act.put, List.setIfInBounds_toArray, List.set_cons_zero, List.set_cons_succ]
  refine wpAnyK_take (i := 3) (oi := ?_) (v := ?_) ?_ (by kernel_rfl) (by kernel_rfl) (by kernel_rfl) (fun _ _ _ h => h) (by decide) ?_ HS.out (fun _ => trivial) ?_
  rotate_left 2
  · (simp only [List.getElem?_toArray, List.getElem?_cons_succ, List.getElem?_cons_zero]; rfl)
  · (first | exact Or.inr ⟨by rfl, rfl⟩ | (refine Or.inl ⟨by rfl, ?_⟩; intro W hSw; clear hSw; go_simp; try with_reducible rfl))
  try simp only [Act.put, List.setIfInBounds_toArray, List.set_cons_zero, List.set_cons_succ]
  refine wpAnyK_take (i := 4) (oi := ?_) (v := ?_) ?_ (by kernel_rfl) (by kernel_rfl) (by kernel_rfl) (fun _ _ _ h => h) (by decide) ?_ HS.out (fun _ => trivial) ?_
  rotate_left 2
  · (simp only [List.getElem?_toArray, List.getElem?_cons_succ, List.getElem?_cons_zero]; rfl)
  · (first | exact Or.inr ⟨by rfl, rfl⟩ | (refine Or.inl ⟨by rfl, ?_⟩; intro W hSw; have hq := HSB.out W hSw; clear hSw; go_simp; try with_reducible rfl))
  try simp only [Act.put, List.setIfInBounds_toArray, List.set_cons_zero, List.set_cons_succ]
  refine wpAnyK_one (i := 5) (o := ?_) (by kernel_rfl) ?_ (fun K hK => ?_)
  rotate_left 1
  · (simp only [List.getElem?_toArray, List.getElem?_cons_succ, List.getElem?_cons_zero]; rfl)
  go_simp
  refine hK.out _ _ HS14.out (fun _ => trivial) ?_
  clear hK K
  try simp only [Act.put, List.setIfInBounds_toArray, List.set_cons_zero, List.set_cons_succ]
  refine wpAnyK_one (i := 6) (o := ?_) (by kernel_rfl) ?_ (fun K hK => ?_)
  rotate_left 1
  · (simp only [List.getElem?_toArray, List.getElem?_cons_succ, List.getElem?_cons_zero]; rfl)
  go_simp
  refine hK.out _ _ HS14.out (fun _ => trivial) ?_
  clear hK K
  try simp only [Act.put, List.setIfInBounds_toArray, List.set_cons_zero, List.set_cons_succ]
  refine wpAnyK_take (i := 7) (oi := ?_) (v := ?_) ?_ (by kernel_rfl) (by kernel_rfl) (by kernel_rfl) (fun _ _ _ h => h) (by decide) ?_ HS14.out (fun _ => trivial) ?_
  rotate_left 2
  · (simp only [List.getElem?_toArray, List.getElem?_cons_succ, List.getElem?_cons_zero]; rfl)
  · (first | exact Or.inr ⟨by rfl, rfl⟩ | (refine Or.inl ⟨by rfl, ?_⟩; intro W hSw; clear hSw; go_simp; try with_reducible rfl))
  try simp only [Act.put, List.setIfInBounds_toArray, List.set_cons_zero, List.set_cons_succ]
  refine wpAnyK_take (i := 8) (oi := ?_) (v := ?_) ?_ (by kernel_rfl) (by kernel_rfl) (by kernel_rfl) (fun _ _ _ h => h) (by decide) ?_ HS14.out (fun _ => trivial) ?_
  rotate_left 2
  · (simp only [List.getElem?_toArray, List.getElem?_cons_succ, List.getElem?_cons_zero]; rfl)
  · (first | exact Or.inr ⟨by rfl, rfl⟩ | (refine Or.inl ⟨by rfl, ?_⟩; intro W hSw; clear hSw; go_simp; try with_reducible rfl))
  try simp only [Act.put, List.setIfInBounds_toArray, List.set_cons_zero, List.set_cons_succ]
  refine wpAnyK_done (by kernel_rfl) ?_ _
  refine NoPanic.normal ?_
  clear m2 s2 p2 HSB
  have H14 := Lib.hid (H13.out.below HS14.out)
  have HF14 := Lib.hid (HF13.out.blw HS14.out)
  clear H13 HF13 HP13 HS14 HS
  --M4
  rcases HCA.out with ⟨c, rfl, rfl⟩ | ⟨c, rfl, rfl, rfl⟩
  · go_wp2_with fail
    refine (awake17_any w14).mono ?_
    rintro e w15 ⟨rfl, hb15⟩
    have HE := Lib.hid ((HB4.out.trans (H14.out.ends.mono HB4.out.size)).trans (hb15.mono (Nat.le_trans HB4.out.size H14.out.ends.size)))
    go_wp2
    go_ret
    exact ⟨rfl, HE.out⟩
  · go_wp2_with fail
    refine (left_any w14 Fg _ HF14.out (by omega)).mono ?_
    rintro e w15 ⟨rfl, rfl⟩
    have hfe : ((1048576 - (5 * N - 1) : Nat) : Int) = 1048576 - (5 * (N : Int) - 1) := by omega
    rw [hfe]
    clear hfe
    go_wp2_with fail
    refine (awake17_any w15).mono ?_
    rintro e w16 ⟨rfl, hb16⟩
    have HE := Lib.hid ((HB4.out.trans (H14.out.ends.mono HB4.out.size)).trans (hb16.mono (Nat.le_trans HB4.out.size H14.out.ends.size)))
    go_wp2
    go_ret
    exact ⟨rfl, HE.out⟩
end Go.Proofs.Ythbgmlmcjnlopaa
