/- markEntryS of the laws where there are no entries. No condition. -/
import Derived.Test.YtneohabkoighcaaGreatFct
namespace Go.Proofs.YtneohabkoighcaaGreat
open Go.ChangeShapes Go.WideShapes Go.ChangeAt Go.RowKit
set_option maxRecDepth 100000

set_option maxHeartbeats 4000000 in
theorem markE_nil (a : Option Addr) (c : Nat) (k0 : Int) (w : World) : Calls Tryz.prog 65 #[.slice a 0 c, .int .i64 k0] w fun e w' => e = .returned (.int .i64 k0) ∧ w' = w := by
  go_enter Tryz.func65, Tryz.ntmps65
  go_wp2
  refine wp_loop_rounds 1 ?_
  rw [rounds_succ]
  go_wp2
  go_ret
  exact ⟨rfl, rfl⟩
end Go.Proofs.YtneohabkoighcaaGreat
