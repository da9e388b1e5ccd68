/- Two words in two blocks, one behind the other. -/
import Derived.Test.YtehmlneaahbdoaaWordB
import Derived.Test.YtehmlneaahbdoaaAft
namespace Go.Proofs.Ytehmlneaahbdoaa
open Go.ChangeShapes Go.WideShapes Go.ChangeAt Go.RowKit

/-- Two words' blocks; nothing that was there has turned. -/
structure Tw (w0 : World) (n : Int) (i : Bool) (b t p s n' : Int) (i' : Bool) (b' t' p' s' : Int) (w : World) : Prop where
  a : Six w w0.heap.size n i b t p s
  y : Six w (w0.heap.size + 1) n' i' b' t' p' s'
  k : Below w0.heap.size w0 w
theorem Tw.next {w0 w w' : World} {n : Int} {i : Bool} {b t p s n' : Int} {i' : Bool} {b' t' p' s' : Int} (h : Tw w0 n i b t p s n' i' b' t' p' s' w) (hb : Below w.heap.size w w') : Tw w0 n i b t p s n' i' b' t' p' s' w' :=
  ⟨h.a.below hb, h.y.below hb, h.k.trans (hb.mono h.k.size)⟩
theorem Tw.new (w : World) (n : Int) (i : Bool) (b t p s n' : Int) (i' : Bool) (b' t' p' s' : Int) (T : TypeId) :
    Tw w n i b t p s n' i' b' t' p' s' ((w.alloc (.cells #[.int .i64 n, .bool i, .int .i64 b, .int .i64 t, .int .i64 p, .int .i64 s] T)).alloc (.cells #[.int .i64 n', .bool i', .int .i64 b', .int .i64 t', .int .i64 p', .int .i64 s'] T)) :=
  ⟨(Six.new w n i b t p s _).alloc _, Six.second w _ n' i' b' t' p' s' _, ((Below.refl _ w).alloc (Nat.le_refl _) _).alloc (by simp) _⟩
end Go.Proofs.Ytehmlneaahbdoaa
