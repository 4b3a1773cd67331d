import Derived.Test.YtplgdpjbkdagfaaGreatZOwnT
import Derived.Deep.DeepFit
namespace Go.Proofs.YtplgdpjbkdagfaaGreat
open Go.ChangeShapes Go.WideShapes Go.ChangeAt Go.RowKit
set_option linter.unusedVariables false
set_option linter.unusedSimpArgs false
set_option maxRecDepth 100000
theorem Zmn (w:World):Calls Tryz.prog 54 #[.slice none 0 0,.slice none 0 0] w fun e u=>e= .returned (.bool true)/\Below w.heap.size w u:=by
 go_enter Tryz.func54,Tryz.ntmps54;go_wp2_with fail
 go_loopw [13] (fun v13 wr=>v13= .int .i64 0/\wr=w) (fun _ _=>0)
 case atStart=>exact⟨rfl,rfl⟩
 case round =>
  obtain⟨rfl,rfl⟩:=hrel;go_wp2_with fail
  go_ret;exact⟨rfl,Below.refl _ _⟩
theorem Zkd (w:World):Calls Tryz.prog 55 #[.slice none 0 0,.slice none 0 0] w fun e u=>e= .returned (.bool true)/\Below w.heap.size w u:=by
 go_enter Tryz.func55,Tryz.ntmps55;go_wp2_with fail
 go_loopw [13] (fun v13 wr=>v13= .int .i64 0/\wr=w) (fun _ _=>0)
 case atStart=>exact⟨rfl,rfl⟩
 case round =>
  obtain⟨rfl,rfl⟩:=hrel;go_wp2_with fail
  go_ret;exact⟨rfl,Below.refl _ _⟩
theorem Zke (w:World):Calls Tryz.prog 58 #[.slice none 0 0,.slice none 0 0] w fun e u=>e= .returned (.bool true)/\Below w.heap.size w u:=by
 go_enter Tryz.func58,Tryz.ntmps58;go_wp2_with fail
 go_loopw [13] (fun v13 wr=>v13= .int .i64 0/\wr=w) (fun _ _=>0)
 case atStart=>exact⟨rfl,rfl⟩
 case round =>
  obtain⟨rfl,rfl⟩:=hrel;go_wp2_with fail
  go_ret;exact⟨rfl,Below.refl _ _⟩
theorem Zos (w:World):Calls Tryz.prog 59 #[.slice none 0 0,.slice none 0 0] w fun e u=>e= .returned (.bool true)/\Below w.heap.size w u:=by
 go_enter Tryz.func59,Tryz.ntmps59;go_wp2_with fail
 go_loopw [13] (fun v13 wr=>v13= .int .i64 0/\wr=w) (fun _ _=>0)
 case atStart=>exact⟨rfl,rfl⟩
 case round =>
  obtain⟨rfl,rfl⟩:=hrel;go_wp2_with fail
  go_ret;exact⟨rfl,Below.refl _ _⟩
end Go.Proofs.YtplgdpjbkdagfaaGreat
