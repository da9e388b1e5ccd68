/- DrawKeyOk: it returns a Key of some four ints, and turns nothing that was there. -/
import Derived.Test.YtackeckfhnpaaaaDrawK2
namespace Go.Proofs.Ytackeckfhnpaaaa
open Go.ChangeShapes Go.WideShapes Go.ChangeAt Go.RowKit

set_option maxHeartbeats 1000000 in
theorem drawKeyOk_any {w : World} {a : Option Addr} {len cap : Nat} (hc : Code8 w.heap.size w a len) :
    Calls Try.prog 14 #[.slice a len cap] w fun e w' => ∃ b t p s : Int, e = .returned (.agg #[.int .i64 b, .int .i64 t, .int .i64 p, .int .i64 s]) ∧ Below w.heap.size w w' := by
  have bz : Below w.heap.size w (w.alloc (.cells #[.int .i64 0, .int .i64 0, .int .i64 0, .int .i64 0] 25)) := (Below.refl _ _).alloc (Nat.le_refl _) _
  have hs : (w.alloc (.cells #[.int .i64 0, .int .i64 0, .int .i64 0, .int .i64 0] 25)).heap.size = w.heap.size + 1 := by simp
  have C : Hid (Code8 (w.heap.size + 1) (w.alloc (.cells #[.int .i64 0, .int .i64 0, .int .i64 0, .int .i64 0] 25)) a len) := hs ▸ hc.later bz
  clear hc bz
  go_enter Try.func14, Try.ntmps14
  go_wp2_with fail
  refine (d_new (by rw [hs]; exact C.out)).mono ?_
  rw [hs]
  rintro e w1 ⟨rfl, d1, b1⟩
  have D1 : Hid _ := d1
  have F1 : Hid (Four w1 w.heap.size 0 0 0 0) := (Four.new w 0 0 0 0 25).below (by rw [hs]; exact b1)
  have K1 : Hid (Below w.heap.size w w1) := ((Below.refl _ w).alloc (Nat.le_refl _) _).trans (b1.mono (by omega))
  clear d1 b1 C hs
  go_wp2_with fail
  refine (d_key D1.out).mono ?_
  rintro e w2 ⟨b, t, p, s, rfl, d2, k2⟩
  have K2 : Hid (Below w.heap.size w w2) := K1.out.trans (k2.below (by omega) K1.out.size)
  obtain ⟨_, z0, z1, z2, z3, f0, f1, f2, f3⟩ := F1.out.keep k2 (by omega)
  clear d2 k2 D1 K1 F1
  go_wp2
  refine bodyPost_ret (v := .agg #[.int .i64 b, .int .i64 t, .int .i64 p, .int .i64 s]) (by simp [results, Try.results14, go_sem, z0, z1, z2, z3]) rfl ⟨b, t, p, s, rfl, ?_⟩
  exact (((K2.out.setCell (by simp) _).setCell (by simp) _).setCell (by simp) _).setCell (by simp) _
end Go.Proofs.Ytackeckfhnpaaaa
