/- Covers of the program, at all keys. No condition. -/
import Derived.Test.YtackeckfhnpaaaaKeyX
namespace Go.Proofs.Ytackeckfhnpaaaa
open Go.ChangeShapes Go.WideShapes Go.ChangeAt Go.RowKit

set_option maxHeartbeats 400000 in
theorem implCovers_any (b t p s b' t' p' s' : Int) (w : World) :
    Calls Try.prog 10 #[.agg #[.int .i64 b, .int .i64 t, .int .i64 p, .int .i64 s], .agg #[.int .i64 b', .int .i64 t', .int .i64 p', .int .i64 s']] w fun e w' => e = .returned (.bool (covB b t p s b' t' p' s')) ∧ Below w.heap.size w w' := by
  have s1 := covers_any b t p s b' t' p' s'
  generalize covB b t p s b' t' p' s' = x at s1 ⊢
  have S1 : Hid _ := s1
  clear s1
  go_enter Try.func10, Try.ntmps10
  go_wp2_with fail
  refine (S1.out _).mono ?_
  rintro e w1 ⟨rfl, hb1⟩
  have K1 : Hid (Below w.heap.size w w1) := (((Below.refl _ w).alloc (Nat.le_refl _) _).alloc (by simp) _).trans (hb1.mono (by simp; omega))
  clear hb1
  go_wp2
  go_ret
  exact ⟨rfl, K1.out⟩
end Go.Proofs.Ytackeckfhnpaaaa
