/- eqPacked of two Packed that are the same: true. -/
import Derived.Test.YtkfnllgjgikkeaiRows
import Derived.WalkKit
import Derived.ProofKit
namespace Go.Proofs.Ytkfnllgjgikkeai
open Go.ChangeShapes Go.WideShapes Go.ChangeAt Go.RowKit

theorem below_grown {w w' : World} (h : Below w.heap.size w w') (hf : ∀ a, w'.frozen? a = w.frozen? a) : Grown w w' := ⟨h.frame _, hf, h.size⟩

set_option maxHeartbeats 400000 in
theorem eqPacked_same (E B L : Int) (w : World) :
    Calls Try.prog 10 #[.agg #[.int .i64 E, .int .i64 B, .int .i64 L], .agg #[.int .i64 E, .int .i64 B, .int .i64 L]] w fun e w' => e = .returned (.bool true) ∧ Below w.heap.size w w' := by
  go_enter Try.func10, Try.ntmps10
  go_wp2
  go_ret
  exact ⟨rfl, ((Below.refl _ _).alloc (Nat.le_refl _) _).alloc (by simp) _⟩
end Go.Proofs.Ytkfnllgjgikkeai
