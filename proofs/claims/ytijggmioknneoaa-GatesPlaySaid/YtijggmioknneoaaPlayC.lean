/- law 23: GatesPlay: where the acts begin. -/
import Derived.Test.YtijggmioknneoaaPlayB
namespace Go.Proofs.Ytijggmioknneoaa
open Go.ChangeShapes Go.WideShapes Go.ChangeAt Go.RowKit
set_option linter.unusedVariables false
set_option linter.unusedSimpArgs false

theorem zero128 (w : World) : (zeroValue 32).run Try.prog w = .ok (.agg (Array.replicate 128 (.int .u64 0))) w := by kernel_rfl

theorem Play.start {w0 w1 w3 w4 : World} {s : Nat} (T : TypeId) (H1 : SlotsAt (· < w0.heap.size) w1 s 0 (fun _ _ => 0)) (K1 : Kept (· < w0.heap.size) w0 w1) (B3 : Below w1.heap.size w1 w3) (B4 : Below w3.heap.size w3 w4) (C4 : CpuAt w4 w3.heap.size (fun _ => 0)) :
    Play (fun k => k < w0.heap.size ∨ k = w3.heap.size ∨ k = w4.heap.size) w0 (w4.alloc (.cells (Array.replicate 128 (.int .u64 0)) T)) s w3.heap.size w4.heap.size 0 (fun _ _ => 0) (fun _ => 0) (fun _ => 0) := by
  have h1 := K1.size
  have h3 := B3.size
  have h4 := C4.1
  have b4 : Below w1.heap.size w1 w4 := B3.trans (B4.mono h3)
  have b5 : Below w1.heap.size w1 (w4.alloc (.cells (Array.replicate 128 (.int .u64 0)) T)) := b4.alloc b4.size _
  refine ⟨(H1.reserve b5).weaken (fun k hk => ?_), C4.of_block (Below.heap_alloc w4 _ _ h4) (by simp), own_zero128 w4 T, K1.trans (Kept.of_below b5 (fun k hk => Nat.lt_of_lt_of_le hk h1)), fun k hk => .inl hk, .inr (.inl rfl), .inr (.inr rfl), by omega, by omega, by omega⟩
  rcases hk with hk | hk | hk
  · exact .inl hk
  · exact .inr ⟨by omega, by simp; omega⟩
  · exact .inr ⟨by omega, by simp; omega⟩
end Go.Proofs.Ytijggmioknneoaa
