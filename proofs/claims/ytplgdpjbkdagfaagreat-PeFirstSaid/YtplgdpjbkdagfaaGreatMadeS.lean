/- law 5: what Made makes: plain lemmas. -/
import Derived.Test.YtplgdpjbkdagfaaGreatMdApp
namespace Go.Proofs.YtplgdpjbkdagfaaGreat
set_option maxRecDepth 100000
open Go.ChangeShapes Go.WideShapes Go.ChangeAt Go.RowKit
set_option linter.unusedVariables false
set_option linter.unusedSimpArgs false

/-- f, with the bytes of a text from o on. -/
def copyF (f : Nat → Int) (o : Nat) (t : ByteArray) (j : Nat) : Int := if o ≤ j ∧ j < o + t.size then PlainAid.bt t (j - o) else f j
theorem copyF255 {f : Nat → Int} (hf : Bytes255 f) (o : Nat) (t : ByteArray) : Bytes255 (copyF f o t) := fun i => by
  unfold copyF; split
  · exact bt255 t _
  · exact hf i

theorem putI_ne {f : Nat → Int} {o k j : Nat} {v : Int} (h : j < o ∨ o + k ≤ j) : putI f o v k j = f j := by unfold putI; rw [if_neg (by omega)]
theorem setF_ne {f : Nat → Int} {o j : Nat} {v : Int} (h : j ≠ o) : setF f o v j = f j := by unfold setF; rw [if_neg h]
theorem copyF_ne {f : Nat → Int} {o j : Nat} {t : ByteArray} (h : j < o ∨ o + t.size ≤ j) : copyF f o t j = f j := by unfold copyF; rw [if_neg (by omega)]
theorem catF_lt {f h : Nat → Int} {n j : Nat} (e : j < n) : catF n f h j = f j := by unfold catF; rw [if_pos e]
theorem rd_put_ne {f : Nat → Int} {o k o' n : Nat} {v : Int} (h : o' + n ≤ o ∨ o + k ≤ o') : rdF (putI f o v k) o' n = rdF f o' n := rdF_congr n o' fun i hi => putI_ne (by omega)
theorem rd_put_eq (f : Nat → Int) (o k : Nat) (v : Int) : rdF (putI f o v k) o k = v % 256 ^ k := by
  have h := rdF_put f v k k o 0 (by omega)
  simpa using h
theorem rd_set_ne {f : Nat → Int} {o o' n : Nat} {v : Int} (h : o' + n ≤ o ∨ o < o') : rdF (setF f o v) o' n = rdF f o' n := rdF_congr n o' fun i hi => setF_ne (by omega)
theorem rd_copy_ne {f : Nat → Int} {o o' n : Nat} {t : ByteArray} (h : o' + n ≤ o ∨ o + t.size ≤ o') : rdF (copyF f o t) o' n = rdF f o' n := rdF_congr n o' fun i hi => copyF_ne (by omega)
theorem rd_cat_lt {f h : Nat → Int} {m o n : Nat} (e : o + n ≤ m) : rdF (catF m f h) o n = rdF f o n := rdF_congr n o fun i hi => catF_lt (by omega)
theorem rd_zero (n : Nat) : ∀ o, rdF (fun _ => 0) o n = 0 := by
  induction n with
  | zero => intro o; rfl
  | succ n ih => intro o; simp [rdF, ih]

abbrev Trip := Int × Int × Int
def tripC (t : Trip) : List Value := [.int .i64 t.1, .int .i64 t.2.1, .int .i64 t.2.2]
def vS (t : Trip) : Int := t.1 % 16384 + 1
def fullS (t : Trip) : Int := roundS (vS t) 4096
def rawS (t : Trip) : Int := t.2.1 % 8192 / 512 * 512 % (fullS t + 512)
def rightS (t : Trip) : Int := t.2.2 % 8
def rvaS (L : Nat → Trip) : Nat → Int
  | 0 => 4096
  | i + 1 => rvaS L i + fullS (L i)
def atS (L : Nat → Trip) : Nat → Nat
  | 0 => 1024
  | i + 1 => atS L i + (rawS (L i)).toNat

theorem vS_bd (t : Trip) : 1 ≤ vS t ∧ vS t ≤ 16384 := by unfold vS; omega
theorem roundS_eq {n : Int} (h : 1 ≤ n) (h2 : n ≤ 1099511627776) : roundS n 4096 = ((n - 1) / 4096 + 1) * 4096 := by
  unfold roundS
  rw [if_neg (by omega), show max (4096 : Int) 1 = 4096 by omega, show min n 1099511627776 = n by omega]
theorem fullS_bd (t : Trip) : 4096 ≤ fullS t ∧ fullS t ≤ 16384 ∧ fullS t % 4096 = 0 ∧ vS t ≤ fullS t := by
  have h := vS_bd t
  unfold fullS
  rw [roundS_eq (by omega) (by omega)]
  omega
theorem rawS_bd (t : Trip) : 0 ≤ rawS t ∧ rawS t < 8192 ∧ rawS t % 512 = 0 ∧ rawS t ≤ fullS t := by
  have h := fullS_bd t
  unfold rawS
  generalize fullS t = r at *
  obtain ⟨k, hk⟩ : ∃ k, r = 4096 * k := ⟨r / 4096, by omega⟩
  subst hk
  obtain ⟨a, ha⟩ : ∃ a, t.2.1 % 8192 / 512 = a := ⟨_, rfl⟩
  have h1 : 0 ≤ a ∧ a < 16 := by omega
  rw [ha]
  have h2 : 1 ≤ k ∧ k ≤ 4 := by omega
  have h3 := Int.emod_nonneg (a * 512) (show 4096 * k + 512 ≠ 0 by omega)
  have h4 := Int.emod_lt_of_pos (a * 512) (show (0 : Int) < 4096 * k + 512 by omega)
  have h5 := Int.emod_add_mul_ediv (a * 512) (4096 * k + 512)
  rcases (by omega : k = 1 ∨ k = 2 ∨ k = 3 ∨ k = 4) with rfl | rfl | rfl | rfl <;> omega
theorem rightS_bd (t : Trip) : 0 ≤ rightS t ∧ rightS t < 8 := by unfold rightS; omega
theorem rvaS_bd (L : Nat → Trip) (i : Nat) : 4096 ≤ rvaS L i ∧ rvaS L i ≤ 4096 + 16384 * i ∧ rvaS L i % 4096 = 0 := by
  induction i with
  | zero => simp [rvaS]
  | succ i ih => have := fullS_bd (L i); simp only [rvaS]; omega
theorem atS_bd (L : Nat → Trip) (i : Nat) : 1024 ≤ atS L i ∧ atS L i ≤ 1024 + 8192 * i ∧ atS L i % 512 = 0 := by
  induction i with
  | zero => simp [atS]
  | succ i ih => have := rawS_bd (L i); simp only [atS]; omega
theorem atS_mono (L : Nat → Trip) {i j : Nat} (h : i ≤ j) : atS L i ≤ atS L j := by
  induction j with
  | zero => obtain rfl : i = 0 := by omega
            exact Nat.le_refl _
  | succ j ih =>
    rcases Nat.lt_or_ge j i with h1 | h1
    · obtain rfl : i = j + 1 := by omega
      exact Nat.le_refl _
    · have := ih h1
      simp only [atS]
      omega

/-- What stands at fixed places. -/
structure MadeH (f : Nat → Int) (n : Int) : Prop where
  m0 : f 0 = 77
  m1 : f 1 = 90
  pe : rdF f 60 4 = 64
  p0 : f 64 = 80
  p1 : f 65 = 69
  p2 : f 66 = 0
  p3 : f 67 = 0
  mach : rdF f 68 2 = 34404
  cnt : rdF f 70 2 = n
  stamp : rdF f 72 4 = 77
  opt : rdF f 84 2 = 240
  chars : rdF f 86 2 = 8226
  mg : rdF f 88 2 = 523
  ent : rdF f 104 4 = 0
  base : rdF f 112 8 = 65536
  al : rdF f 120 4 = 4096
  fal : rdF f 124 4 = 512
  hdrs : rdF f 148 4 = 1024
  nd : rdF f 196 4 = 16
  dirs : ∀ i, i < 32 → rdF f (200 + 4 * i) 4 = 0

theorem MadeH.congr {f f' : Nat → Int} {n : Int} (h : MadeH f n) (e : ∀ q, q < 328 → (q < 144 ∨ 148 ≤ q) → f' q = f q) : MadeH f' n := by
  have k : ∀ o m, o + m ≤ 328 → (o + m ≤ 144 ∨ 148 ≤ o) → rdF f' o m = rdF f o m := fun o m h1 h2 => rdF_congr m o fun i hi => e _ (by omega) (by omega)
  exact ⟨(e 0 (by omega) (by omega)).trans h.m0, (e 1 (by omega) (by omega)).trans h.m1, (k _ _ (by omega) (by omega)).trans h.pe, (e _ (by omega) (by omega)).trans h.p0, (e _ (by omega) (by omega)).trans h.p1, (e _ (by omega) (by omega)).trans h.p2, (e _ (by omega) (by omega)).trans h.p3,
    (k _ _ (by omega) (by omega)).trans h.mach, (k _ _ (by omega) (by omega)).trans h.cnt, (k _ _ (by omega) (by omega)).trans h.stamp, (k _ _ (by omega) (by omega)).trans h.opt, (k _ _ (by omega) (by omega)).trans h.chars, (k _ _ (by omega) (by omega)).trans h.mg, (k _ _ (by omega) (by omega)).trans h.ent, (k _ _ (by omega) (by omega)).trans h.base,
    (k _ _ (by omega) (by omega)).trans h.al, (k _ _ (by omega) (by omega)).trans h.fal, (k _ _ (by omega) (by omega)).trans h.hdrs, (k _ _ (by omega) (by omega)).trans h.nd, fun i hi => (k _ _ (by omega) (by omega)).trans (h.dirs i hi)⟩

/-- The bytes of the head, ahead of its sections. -/
def preF (n : Int) : Nat → Int :=
  putI (putI (putI (putI (putI (putI (putI (putI (putI (putI (putI (copyF (putI (copyF (fun _ => 0) 0 ⟨#[77, 90]⟩) 60 64 4) 64 ⟨#[80, 69, 0, 0]⟩) 68 34404 2) 70 n 2) 72 77 4) 84 240 2) 86 8226 2) 88 523 2) 112 65536 8) 120 4096 4) 124 512 4) 148 1024 4) 196 16 4

theorem preF_head (n : Int) (h0 : 0 ≤ n) (h1 : n < 65536) : MadeH (preF n) n := by
  have z1 : (⟨#[77, 90]⟩ : ByteArray).size = 2 := rfl
  have z2 : (⟨#[80, 69, 0, 0]⟩ : ByteArray).size = 4 := rfl
  have hn : n % 256 ^ 2 = n := by rw [show (256 : Int) ^ 2 = 65536 by rfl]; omega
  unfold preF
  refine ⟨?_, ?_, ?_, ?_, ?_, ?_, ?_, ?_, ?_, ?_, ?_, ?_, ?_, ?_, ?_, ?_, ?_, ?_, ?_, fun i hi => ?_⟩
  all_goals simp (disch := omega) only [rd_put_ne, rd_put_eq, putI_ne, rd_copy_ne, copyF_ne, rd_zero, hn]
  all_goals first | rfl | skip

theorem preF_nul (n : Int) (q : Nat) (h : 328 ≤ q) : preF n q = 0 := by
  have z1 : (⟨#[77, 90]⟩ : ByteArray).size = 2 := rfl
  have z2 : (⟨#[80, 69, 0, 0]⟩ : ByteArray).size = 4 := rfl
  unfold preF
  simp (disch := omega) only [putI_ne, copyF_ne]

/-- A section's row at o. -/
structure SecF (f : Nat → Int) (o : Nat) (v rva raw spot r : Int) (i : Nat) : Prop where
  n0 : f o = 115
  n1 : f (o + 1) = 48 + i
  nz : ∀ q, 2 ≤ q → q < 8 → f (o + q) = 0
  v : rdF f (o + 8) 4 = v
  rva : rdF f (o + 12) 4 = rva
  raw : rdF f (o + 16) 4 = raw
  spot : rdF f (o + 20) 4 = spot
  r : rdF f (o + 36) 4 = r * 536870912

theorem SecF.congr {f f' : Nat → Int} {o : Nat} {v rva raw spot r : Int} {i : Nat} (h : SecF f o v rva raw spot r i) (e : ∀ q, o ≤ q → q < o + 40 → f' q = f q) : SecF f' o v rva raw spot r i := by
  have k : ∀ d, d + 4 ≤ 40 → rdF f' (o + d) 4 = rdF f (o + d) 4 := fun d h1 => rdF_congr 4 _ fun i hi => e _ (by omega) (by omega)
  exact ⟨(e _ (by omega) (by omega)).trans h.n0, (e _ (by omega) (by omega)).trans h.n1, fun q h1 h2 => (e _ (by omega) (by omega)).trans (h.nz q h1 h2), (k _ (by omega)).trans h.v, (k _ (by omega)).trans h.rva, (k _ (by omega)).trans h.raw, (k _ (by omega)).trans h.spot, (k _ (by omega)).trans h.r⟩

/-- i sections are made. -/
structure MadeI (L : Nat → Trip) (n : Int) (i : Nat) (f : Nat → Int) : Prop where
  hd : MadeH f n
  sec : ∀ j, j < i → SecF f (328 + 40 * j) (vS (L j)) (rvaS L j) (rawS (L j)) (atS L j) (rightS (L j)) j
  dat : ∀ (j k : Nat), j < i → (k : Int) < rawS (L j) → f (atS L j + k) = (7 * k + j + 1) % 256
  nul : ∀ q, 328 + 40 * i ≤ q → q < 1024 → f q = 0

theorem MadeI.start (L : Nat → Trip) (n : Int) (h0 : 0 ≤ n) (h1 : n < 65536) : MadeI L n 0 (preF n) :=
  ⟨preF_head n h0 h1, fun j hj => by omega, fun j k hj => by omega, fun q h _ => preF_nul n q (by omega)⟩

/-- What a round makes of the bytes. -/
def secF (L : Nat → Trip) (i : Nat) (f h : Nat → Int) : Nat → Int :=
  catF (atS L i) (putI (putI (putI (putI (putI (setF (setF f (328 + 40 * i) 115) (328 + 40 * i + 1) (48 + i)) (328 + 40 * i + 8) (vS (L i)) 4) (328 + 40 * i + 12) (rvaS L i) 4) (328 + 40 * i + 16) (rawS (L i)) 4) (328 + 40 * i + 20) (atS L i) 4) (328 + 40 * i + 36) (rightS (L i) * 536870912) 4) h

theorem MadeI.next {L : Nat → Trip} {n : Int} {i : Nat} {f : Nat → Int} (x : MadeI L n i f) (hi : i < 6) (h : Nat → Int) (hh : ∀ k : Nat, (k : Int) < rawS (L i) → h k = (7 * k + i + 1) % 256) :
    MadeI L n (i + 1) (secF L i f h) := by
  have ha := atS_bd L i
  have hv := vS_bd (L i)
  have hr := rvaS_bd L i
  have hw := rawS_bd (L i)
  have hg := rightS_bd (L i)
  have hlow : ∀ q, q < 328 + 40 * i → secF L i f h q = f q := fun q hq => by
    unfold secF
    simp (disch := omega) only [catF_lt, putI_ne, setF_ne]
  have hmid : ∀ q, 368 + 40 * i ≤ q → q < atS L i → secF L i f h q = f q := fun q h1 h2 => by
    unfold secF
    simp (disch := omega) only [catF_lt, putI_ne, setF_ne]
  refine ⟨x.hd.congr fun q h1 _ => hlow q (by omega), fun j hj => ?_, fun j k hj hk => ?_, fun q h1 h2 => ?_⟩
  · by_cases e : j = i
    · subst e
      have hpow : (256 : Int) ^ 4 = 4294967296 := rfl
      refine ⟨?_, ?_, fun q h1 h2 => ?_, ?_, ?_, ?_, ?_, ?_⟩
      all_goals unfold secF
      · simp (disch := omega) only [catF_lt, putI_ne, setF_ne]; simp [setF]
      · simp (disch := omega) only [catF_lt, putI_ne]; simp [setF]
      · simp (disch := omega) only [catF_lt, putI_ne, setF_ne]
        exact x.nul _ (by omega) (by omega)
      all_goals
        simp (disch := omega) only [rd_cat_lt, rd_put_ne, rd_put_eq, hpow]
        omega
    · exact (x.sec j (by omega)).congr fun q h1 h2 => hlow q (by omega)
  · by_cases e : j = i
    · subst e
      unfold secF catF
      rw [if_neg (by omega), show atS L j + k - atS L j = k by omega]
      exact hh k hk
    · have h1 := atS_mono L (show j + 1 ≤ i by omega)
      simp only [atS] at h1
      have h2 := atS_bd L j
      rw [hmid _ (by omega) (by omega)]
      exact x.dat j k (by omega) hk
  · rw [hmid q (by omega) (by omega)]
    exact x.nul q (by omega) h2

/-- What is made of n sections. -/
structure MadeP (L : Nat → Trip) (n : Nat) (f : Nat → Int) : Prop where
  all : MadeI L n n f
  size : rdF f 144 4 = rvaS L n

theorem MadeI.done {L : Nat → Trip} {n : Nat} {f : Nat → Int} (x : MadeI L n n f) (hn : n ≤ 6) : MadeP L n (putI f 144 (rvaS L n) 4) := by
  have hr := rvaS_bd L n
  refine ⟨⟨x.hd.congr fun q _ h => putI_ne (by omega), fun j hj => (x.sec j hj).congr fun q h1 h2 => putI_ne (by omega), fun j k hj hk => ?_, fun q h1 h2 => ?_⟩, ?_⟩
  · have := atS_bd L j
    rw [putI_ne (by omega)]
    exact x.dat j k hj hk
  · rw [putI_ne (by omega)]
    exact x.nul q h1 h2
  · rw [rd_put_eq, show (256 : Int) ^ 4 = 4294967296 by rfl]
    omega
end Go.Proofs.YtplgdpjbkdagfaaGreat
