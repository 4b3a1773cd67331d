/- Instructions and their forms, as numbers: how they are read, plainly. -/
import Derived.Test.YthbgmlmcjnlopaaRows
namespace Go.Proofs.Ythbgmlmcjnlopaa

structure Form where
  op : Nat
  alu : Nat
  cc : Nat
  pre : Nat
  code : Nat
  regs : Nat
  ext : Nat
  tail : Nat
  deriving DecidableEq

structure InsV where
  op : Nat
  a : Nat
  b : Nat
  alu : Nat
  cc : Nat
  imm : Nat
  disp : Int
  deriving DecidableEq

def ins0 : InsV := ⟨0, 0, 0, 0, 0, 0, 0⟩

def forms : List Form :=
  [⟨1,0,0,0,144,0,0,0⟩, ⟨2,0,0,0,195,0,0,0⟩, ⟨3,0,0,1,80,1,0,0⟩, ⟨4,0,0,1,88,1,0,0⟩, ⟨5,0,0,4,184,1,0,1⟩, ⟨6,0,0,1,184,1,0,2⟩,
   ⟨7,0,0,2,1,3,192,0⟩, ⟨7,1,0,2,41,3,192,0⟩, ⟨7,2,0,2,33,3,192,0⟩, ⟨7,3,0,2,9,3,192,0⟩, ⟨7,4,0,2,49,3,192,0⟩, ⟨7,7,0,2,57,3,192,0⟩, ⟨7,8,0,2,133,3,192,0⟩,
   ⟨8,0,0,2,137,3,192,0⟩, ⟨9,0,0,2,139,4,128,5⟩, ⟨10,0,0,2,137,4,128,5⟩, ⟨11,0,0,3,139,5,5,5⟩, ⟨12,0,0,3,137,5,5,5⟩, ⟨13,0,0,3,141,5,5,5⟩,
   ⟨14,0,0,5,131,2,192,4⟩, ⟨14,1,0,5,131,2,232,4⟩, ⟨14,7,0,5,131,2,248,4⟩, ⟨15,5,0,5,255,2,192,0⟩, ⟨15,6,0,5,255,2,200,0⟩, ⟨16,9,0,5,193,2,224,3⟩, ⟨16,10,0,5,193,2,232,3⟩,
   ⟨17,0,0,0,232,0,0,5⟩, ⟨18,0,0,0,233,0,0,5⟩, ⟨19,0,0,0,235,0,0,6⟩,
   ⟨20,0,2,0,114,0,0,6⟩, ⟨20,0,3,0,115,0,0,6⟩, ⟨20,0,4,0,116,0,0,6⟩, ⟨20,0,5,0,117,0,0,6⟩, ⟨20,0,8,0,120,0,0,6⟩, ⟨20,0,9,0,121,0,0,6⟩, ⟨20,0,12,0,124,0,0,6⟩, ⟨20,0,13,0,125,0,0,6⟩,
   ⟨21,0,0,0,255,6,21,5⟩, ⟨22,0,0,0,255,6,37,5⟩, ⟨23,0,0,0,205,0,0,3⟩]

/-- What a form's numbers are, at most. -/
structure Form.Ok (F : Form) : Prop where
  op : F.op ≤ 23
  alu : F.alu ≤ 10
  cc : F.cc ≤ 13
  pre : F.pre ≤ 5
  code : F.code ≤ 255
  regs : F.regs ≤ 6
  ext : F.ext ≤ 255
  tail : F.tail ≤ 6

theorem forms_ok : ∀ F ∈ forms, F.Ok := by
  have h : ∀ F ∈ forms, F.op ≤ 23 ∧ F.alu ≤ 10 ∧ F.cc ≤ 13 ∧ F.pre ≤ 5 ∧ F.code ≤ 255 ∧ F.regs ≤ 6 ∧ F.ext ≤ 255 ∧ F.tail ≤ 6 := by decide +kernel
  intro F hF
  obtain ⟨h1, h2, h3, h4, h5, h6, h7, h8⟩ := h F hF
  exact ⟨h1, h2, h3, h4, h5, h6, h7, h8⟩

/-- A prefix: its byte, the bits of A and of B, and whether it may be left out. -/
structure Pre where
  base : Nat
  bitA : Nat
  bitB : Nat
  spare : Bool

def preF : Nat → Pre
  | 1 => ⟨64, 1, 0, true⟩
  | 2 => ⟨72, 4, 1, false⟩
  | 3 => ⟨72, 4, 0, false⟩
  | 4 => ⟨72, 1, 0, false⟩
  | 5 => ⟨72, 0, 1, false⟩
  | _ => ⟨0, 0, 0, false⟩

/-- How many bytes, how they fit (0: not, 1: short, 2: wholly), and the registers' highest bits. -/
structure Rd where
  n : Nat
  fit : Nat
  a : Nat
  b : Nat
  deriving DecidableEq

def preRead (p : Pre) (bs : List Nat) : Rd :=
  if p.base = 0 then ⟨0, 2, 0, 0⟩ else
  match bs with
  | [] => ⟨0, 1, 0, 0⟩
  | v :: _ =>
    if v &&& (255 - (p.bitA ||| p.bitB)) ≠ p.base ∨ (p.spare = true ∧ v = p.base) then (if p.spare then ⟨0, 2, 0, 0⟩ else ⟨0, 0, 0, 0⟩)
    else ⟨1, 2, if v &&& p.bitA ≠ 0 then 8 else 0, if v &&& p.bitB ≠ 0 then 8 else 0⟩

def hasA (r : Nat) : Bool := r == 1 || r == 3 || r == 4 || r == 5
def hasB (r : Nat) : Bool := r == 2 || r == 3 || r == 4

/-- The byte behind the code: does it fit, and the registers. -/
def regsRead (F : Form) (v a b : Nat) : Bool × Nat × Nat :=
  let a' := if hasA F.regs then a + (v / 8 &&& 7) else a
  let v1 := if hasA F.regs then v &&& 199 else v
  let b' := if hasB F.regs then b + (v1 &&& 7) else b
  let v2 := if hasB F.regs then v1 &&& 248 else v1
  (v2 == F.ext && !(F.regs == 4 && (b' &&& 7) == 4), a', b')

def codeRead (F : Form) (a b : Nat) (bs : List Nat) : Rd :=
  match bs with
  | [] => ⟨0, 1, a, b⟩
  | c :: r =>
    if F.regs = 1 then (if c &&& 248 ≠ F.code then ⟨0, 0, a, b⟩ else ⟨1, 2, a + (c &&& 7), b⟩)
    else if c ≠ F.code then ⟨0, 0, a, b⟩
    else if F.regs = 0 then ⟨1, 2, a, b⟩
    else match r with
      | [] => ⟨0, 1, a, b⟩
      | v :: _ => if (regsRead F v a b).1 then ⟨2, 2, (regsRead F v a b).2.1, (regsRead F v a b).2.2⟩ else ⟨0, 0, (regsRead F v a b).2.1, (regsRead F v a b).2.2⟩

def tailLen : Nat → Nat
  | 1 => 8
  | 2 => 4
  | 5 => 4
  | 3 => 1
  | 4 => 1
  | 6 => 1
  | _ => 0

/-- The number of the first n bytes, the lowest first. -/
def leN (bs : List Nat) : Nat → Nat
  | 0 => 0
  | n + 1 => bs.headD 0 + 256 * leN bs.tail n

def sgn8 (b : Nat) : Nat := if b < 128 then b else b + 18446744073709551360
def i8N (b : Nat) : Int := if b < 128 then b else (b : Int) - 256
def i32N (v : Nat) : Int := if v < 2147483648 then v else (v : Int) - 4294967296

def tailImm (t : Nat) (bs : List Nat) : Nat :=
  match t with
  | 1 => leN bs 8
  | 2 => leN bs 4
  | 3 => bs.headD 0
  | 4 => sgn8 (bs.headD 0)
  | _ => 0

def tailDisp (t : Nat) (bs : List Nat) : Int :=
  match t with
  | 5 => i32N (leN bs 4)
  | 6 => i8N (bs.headD 0)
  | _ => 0

/-- What is read: an instruction, how many bytes, how they fit. -/
structure Got where
  x : InsV
  n : Nat
  fit : Nat
  deriving DecidableEq

/-- The head alone: bytes, fit, registers. -/
def headRead (F : Form) (bs : List Nat) : Rd :=
  if (preRead (preF F.pre) bs).fit ≠ 2 then ⟨0, (preRead (preF F.pre) bs).fit, 0, 0⟩ else
  if (codeRead F (preRead (preF F.pre) bs).a (preRead (preF F.pre) bs).b (bs.drop (preRead (preF F.pre) bs).n)).fit ≠ 2 then
    ⟨0, (codeRead F (preRead (preF F.pre) bs).a (preRead (preF F.pre) bs).b (bs.drop (preRead (preF F.pre) bs).n)).fit, 0, 0⟩
  else ⟨(preRead (preF F.pre) bs).n + (codeRead F (preRead (preF F.pre) bs).a (preRead (preF F.pre) bs).b (bs.drop (preRead (preF F.pre) bs).n)).n, 2,
    (codeRead F (preRead (preF F.pre) bs).a (preRead (preF F.pre) bs).b (bs.drop (preRead (preF F.pre) bs).n)).a,
    (codeRead F (preRead (preF F.pre) bs).a (preRead (preF F.pre) bs).b (bs.drop (preRead (preF F.pre) bs).n)).b⟩

def readM (F : Form) (bs : List Nat) : Got :=
  if (headRead F bs).fit ≠ 2 then ⟨ins0, 0, (headRead F bs).fit⟩
  else if bs.length < (headRead F bs).n + tailLen F.tail then ⟨ins0, 0, 1⟩
  else ⟨⟨F.op, (headRead F bs).a, (headRead F bs).b, F.alu, F.cc, tailImm F.tail (bs.drop (headRead F bs).n), tailDisp F.tail (bs.drop (headRead F bs).n)⟩, (headRead F bs).n + tailLen F.tail, 2⟩

/-- The first form that fits wholly; the error else. -/
def decodeM : List Form → Nat → List Nat → Got
  | [], e, _ => ⟨ins0, 0, e⟩
  | F :: l, e, bs => if (readM F bs).fit = 2 then ⟨(readM F bs).x, (readM F bs).n, 0⟩ else decodeM l (if (readM F bs).fit = 1 then 2 else e) bs

theorem decode_tests : decodeM forms 16 [0x48, 0x01, 0xc8] = ⟨⟨7, 1, 0, 0, 0, 0, 0⟩, 3, 0⟩ ∧ decodeM forms 16 [0x48] = ⟨ins0, 0, 2⟩ ∧ decodeM forms 16 [0x0f] = ⟨ins0, 0, 16⟩ := by decide +kernel

end Go.Proofs.Ythbgmlmcjnlopaa
