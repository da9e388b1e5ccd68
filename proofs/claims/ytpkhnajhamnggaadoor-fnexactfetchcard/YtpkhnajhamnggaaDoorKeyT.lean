/- Two structs of four ints each, in blocks that callees leave alone, beside what was there at first. -/
import Derived.Test.YtpkhnajhamnggaaDoorDraw3
import Derived.Deep.RegionHeld3
import Derived.Deep.DeepCutAuto
namespace Go.Proofs.YtpkhnajhamnggaaDoor
open Go.ChangeShapes Go.WideShapes Go.ChangeAt Go.RowKit

theorem Four.drew {w : World} {r : Nat} {x y z v : Int} (h : Four w r x y z v) : Four w.drew r x y z v := h.below ((Below.refl _ _).drew)

/-- The second of two blocks that are new. -/
theorem Four.second (w : World) (o : Obj) (x y z v : Int) (T : TypeId) : Four ((w.alloc o).alloc (.cells #[.int .i64 x, .int .i64 y, .int .i64 z, .int .i64 v] T)) (w.heap.size + 1) x y z v := by
  have h := Four.new (w.alloc o) x y z v T
  simpa using h

/-- Two structs of four ints, in r and r'; nothing that was there in w0 has turned. -/
structure TwoK (w0 : World) (r r' : Nat) (x0 x1 x2 x3 x4 x5 x6 x7 : Int) (w : World) : Prop where
  a : Four w r x0 x1 x2 x3
  b : Four w r' x4 x5 x6 x7
  k : Below w0.heap.size w0 w

theorem TwoK.next {w0 w w' : World} {r r' : Nat} {x0 x1 x2 x3 x4 x5 x6 x7 : Int} (h : TwoK w0 r r' x0 x1 x2 x3 x4 x5 x6 x7 w) (hb : Below w.heap.size w w') : TwoK w0 r r' x0 x1 x2 x3 x4 x5 x6 x7 w' :=
  ⟨h.a.below hb, h.b.below hb, h.k.trans (hb.mono h.k.size)⟩
theorem TwoK.drew {w0 w : World} {r r' : Nat} {x0 x1 x2 x3 x4 x5 x6 x7 : Int} (h : TwoK w0 r r' x0 x1 x2 x3 x4 x5 x6 x7 w) : TwoK w0 r r' x0 x1 x2 x3 x4 x5 x6 x7 w.drew := h.next ((Below.refl _ _).drew)
theorem TwoK.new (w : World) (x0 x1 x2 x3 x4 x5 x6 x7 : Int) (T T' : TypeId) :
    TwoK w w.heap.size (w.heap.size + 1) x0 x1 x2 x3 x4 x5 x6 x7 ((w.alloc (.cells #[.int .i64 x0, .int .i64 x1, .int .i64 x2, .int .i64 x3] T)).alloc (.cells #[.int .i64 x4, .int .i64 x5, .int .i64 x6, .int .i64 x7] T')) :=
  ⟨(Four.new w _ _ _ _ _).alloc _, Four.second w _ _ _ _ _ _, ((Below.refl _ w).alloc (Nat.le_refl _) _).alloc (by simp) _⟩
theorem TwoK.all {w0 w : World} {r r' : Nat} {x0 x1 x2 x3 x4 x5 x6 x7 : Int} (h : TwoK w0 r r' x0 x1 x2 x3 x4 x5 x6 x7 w) :
    w.cell? ⟨r, 0, none⟩ = some (.int .i64 x0) ∧ w.cell? ⟨r, 1, none⟩ = some (.int .i64 x1) ∧ w.cell? ⟨r, 2, none⟩ = some (.int .i64 x2) ∧ w.cell? ⟨r, 3, none⟩ = some (.int .i64 x3) ∧
    w.cell? ⟨r', 0, none⟩ = some (.int .i64 x4) ∧ w.cell? ⟨r', 1, none⟩ = some (.int .i64 x5) ∧ w.cell? ⟨r', 2, none⟩ = some (.int .i64 x6) ∧ w.cell? ⟨r', 3, none⟩ = some (.int .i64 x7) :=
  ⟨h.a.c0, h.a.c1, h.a.c2, h.a.c3, h.b.c0, h.b.c1, h.b.c2, h.b.c3⟩
end Go.Proofs.YtpkhnajhamnggaaDoor
