/- The texts of rows of bytes. -/
import Derived.Test.YtlifaldbdjcgjaaMem
namespace Go.Proofs.Ytlifaldbdjcgjaa
open Go.ChangeShapes Go.WideShapes Go.ChangeAt Go.RowKit
open Go.ChangeMaps (open_string shut_string)
set_option linter.unusedVariables false
set_option linter.unusedSimpArgs false

def Row (w : World) (b off len : Nat) (f : Nat → Int) : Prop := ∀ i, i < len → w.cell? ⟨b, off + i, none⟩ = some (.int .u8 (f i))

/-- The text of n bytes of f from place o on. -/
def strF (f : Nat → Int) (o n : Nat) : ByteArray := strOfNums ((List.range n).map fun i => f (o + i))

theorem strF_size (f : Nat → Int) (o n : Nat) : (strF f o n).size = n := by simp [strF, strOfNums_size]

theorem run_str {w : World} {b off n cap : Nat} {f : Nat → Int} (h : Row w b off n f) :
    (convert 43 9 (.slice (some ⟨b, off, none⟩) n cap)).run Try.prog w = .ok (.string (strF f 0 n)) w := by
  rw [run_convert_bytes_arg (P := Try.prog) w 43 5 Try.underlying43 Try.underlying5 b off n cap ((List.range n).map f) (by simp) (fun i hi => by rw [h i hi]; simp [hi]) 9 Try.underlying9]
  simp [strF]

theorem run_str_at {w : World} {b off len n o cap : Nat} {f : Nat → Int} (h : Row w b off len f) (hn : o + n ≤ len) :
    (convert 43 9 (.slice (some ⟨b, off + o, none⟩) n cap)).run Try.prog w = .ok (.string (strF f o n)) w := by
  rw [run_convert_bytes_arg (P := Try.prog) w 43 5 Try.underlying43 Try.underlying5 b (off + o) n cap ((List.range n).map fun i => f (o + i)) (by simp) (fun i hi => by rw [Nat.add_assoc, h (o + i) (by omega)]; simp [hi]) 9 Try.underlying9]
  rfl

theorem run_one {w : World} {g : Nat} {f : Nat → Int} {v : Nat} (h : Own w g 1 (fun q => .int .u8 (f q))) (h0 : f 0 = v) :
    (convert 43 9 (.slice (some ⟨g, 0, none⟩) 1 1)).run Try.prog w = .ok (.string (strOfNums [(v : Int)])) w := by
  rw [run_str (f := f) (fun i hi => by obtain rfl : i = 0 := by omega
                                       simpa using h.cell (i := 0) (by omega))]
  simp [strF, h0]
end Go.Proofs.Ytlifaldbdjcgjaa
