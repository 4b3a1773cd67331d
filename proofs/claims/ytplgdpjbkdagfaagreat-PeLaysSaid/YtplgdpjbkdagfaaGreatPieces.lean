import Derived.Deep.Cut
import Derived.Deep.LoopGhost
import Derived.KernelRfl
namespace Go.Proofs.YtplgdpjbkdagfaaGreat
set_option maxRecDepth 100000
open Go
def nth : List Value → Nat → Option Value
  | [], _ => none
  | x :: _, 0 => some x
  | _ :: l, n + 1 => nth l n
theorem nth_lt : ∀ (l : List Value) (k : Nat), k < l.length → nth l k = l[k]?
  | x :: _, 0, _ => rfl
  | x :: l, k + 1, h => by
    show nth l k = _
    rw [nth_lt l k (by simpa using h)]
    simp
def at_ (l : List Value) : List Nat → List (Option Value)
  | [] => []
  | k :: ks => nth l k :: at_ l ks
def sl (a : Act) (k : Nat) : Value := (nth a.tmps.toList k).getD default
theorem open_list (l : List Value) (d : List Deferred) (N : Nat) (h : l.length = N) : l = (List.range N).map (sl ⟨⟨l⟩, d⟩) := by
  apply List.ext_getElem
  · simp [h]
  · intro i h1 h2
    simp only [List.getElem_map, List.getElem_range]
    show l[i] = (nth l i).getD default
    rw [nth_lt l i h1, List.getElem?_eq_getElem h1]
    rfl
structure Same (N : Nat) (ix : List Nat) (a a' : Act) : Prop where
  size : a'.tmps.toList.length = N
  dfr : a'.defers = []
  low : at_ a'.tmps.toList ix = at_ a.tmps.toList ix
theorem wp_cutS {P : Program} {s : Code} {K : Act → World → Prop} {Q' : Exit → Act → World → Prop} {a : Act} {w : World} (N : Nat) (ix : List Nat) (R : (Nat → Value) → World → Prop)
    (first : ∀ (J K' : Act → World → Prop), (∀ a' w', (Same N ix a a' ∧ R (sl a') w') → J a' w') → (∀ a' w', Met J a' w' → K' a' w') → s.wp P (Exit.then K' Q') a w)
    (rest : ∀ a' w', Same N ix a a' → R (sl a') w' → K a' w') : s.wp P (Exit.then K Q') a w :=
  wp_cut (fun a' w' => Same N ix a a' ∧ R (sl a') w') (fun a' w' h => rest a' w' h.1 h.2) first
theorem wp_loopS {P : Program} {Q : Exit → Act → World → Prop} {a : Act} {w : World} {c : Code} (N : Nat) (ix : List Nat) (R : Nat → (Nat → Value) → World → Prop) (n₀ : Nat)
    (h₀ : Same N ix a a) (h₁ : R n₀ (sl a) w)
    (round : ∀ n a' w', Same N ix a a' → R n (sl a') w' → ∀ (J : Nat → Act → World → Prop) (K : Act → World → Prop), (∀ k a'' w'', (Same N ix a a'' ∧ R k (sl a'') w'') → J k a'' w'') → (∀ a'' w'', Handed J n a'' w'' → K a'' w'') → c.wp P (Exit.then K Q) a' w') :
    (Code.loop c).wp P Q a w :=
  wp_loop_ghost_k (fun n a' w' => Same N ix a a' ∧ R n (sl a') w') n₀ ⟨h₀, h₁⟩ (fun n a' w' h J K hJ hK => round n a' w' h.1 h.2 J K hJ hK)
def dropS : Nat → Code → Code
  | 0, c => c
  | n + 1, .seq _ b => dropS n b
  | _, c => c
def headS : Code → Code
  | .seq a _ => a
  | c => c
def inBlock : Code → Code
  | .block _ c => c
  | c => c
def inLoop : Code → Code
  | .loop c => c
  | c => c
structure Has (N : Nat) (ix : List Nat) (vs : List Value) (a : Act) : Prop where
  size : a.tmps.toList.length = N
  dfr : a.defers = []
  low : at_ a.tmps.toList ix = vs.map some
end Go.Proofs.YtplgdpjbkdagfaaGreat
