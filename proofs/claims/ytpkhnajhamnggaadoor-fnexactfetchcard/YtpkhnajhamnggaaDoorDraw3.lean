/- Small facts on the bytes that came in, on what a draw keeps, and on structs of three and four ints in a block that callees leave alone. -/
import Derived.Test.YtpkhnajhamnggaaDoorDraw2
namespace Go.Proofs.YtpkhnajhamnggaaDoor
open Go.ChangeShapes Go.WideShapes Go.ChangeAt Go.RowKit

theorem Code8.up {B B' : Nat} {w : World} {a : Option Addr} {len : Nat} (h : Code8 B w a len) (hB : B ≤ B') : Code8 B' w a len := by
  refine ⟨h.1, ?_⟩
  rcases h.2 with h0 | ⟨b, off, ha, hlt, hc⟩
  · exact .inl h0
  · exact .inr ⟨b, off, ha, by omega, hc⟩
theorem Code8.later {w w' : World} {a : Option Addr} {len : Nat} (h : Code8 w.heap.size w a len) (hb : Below w.heap.size w w') : Code8 w'.heap.size w' a len := (h.keep hb).up hb.size

theorem Drawn.to {w w1 w2 : World} {a : Option Addr} {len cap : Nat} (_d : Drawn w.heap.size w.heap.size w1 a len cap) (hb : Below w.heap.size w w1) (k : KeepBut w.heap.size w1 w2) : Below w.heap.size w w2 :=
  hb.trans (k.below (Nat.le_refl _) hb.size)

theorem KeepBut.frozen {q : Nat} {w w' : World} (h : KeepBut q w w') {p : Addr} (hp : p.block < w.heap.size) (hq : p.block ≠ q) : w'.frozen? p = w.frozen? p := World.frozen?_of_block (w := w) (h.block p.block hp hq)

/-- Three ints in block r, which may be written. -/
structure Three (w : World) (r : Nat) (x y z : Int) : Prop where
  lt : r < w.heap.size
  c0 : w.cell? ⟨r, 0, none⟩ = some (.int .i64 x)
  c1 : w.cell? ⟨r, 1, none⟩ = some (.int .i64 y)
  c2 : w.cell? ⟨r, 2, none⟩ = some (.int .i64 z)
  f0 : w.frozen? ⟨r, 0, none⟩ = false
  f1 : w.frozen? ⟨r, 1, none⟩ = false
  f2 : w.frozen? ⟨r, 2, none⟩ = false
theorem Three.keep {w w' : World} {r q : Nat} {x y z : Int} (h : Three w r x y z) (k : KeepBut q w w') (hq : r ≠ q) : Three w' r x y z :=
  ⟨Nat.lt_of_lt_of_le h.lt k.size, (k.cell (p := ⟨r, 0, none⟩) h.lt hq).trans h.c0, (k.cell (p := ⟨r, 1, none⟩) h.lt hq).trans h.c1, (k.cell (p := ⟨r, 2, none⟩) h.lt hq).trans h.c2,
    (k.frozen (p := ⟨r, 0, none⟩) h.lt hq).trans h.f0, (k.frozen (p := ⟨r, 1, none⟩) h.lt hq).trans h.f1, (k.frozen (p := ⟨r, 2, none⟩) h.lt hq).trans h.f2⟩
theorem Three.new (w : World) (x y z : Int) (T : TypeId) : Three (w.alloc (.cells #[.int .i64 x, .int .i64 y, .int .i64 z] T)) w.heap.size x y z :=
  ⟨by simp, by simp, by simp, by simp, by simp, by simp, by simp⟩
theorem Three.alloc {w : World} {r : Nat} {x y z : Int} (h : Three w r x y z) (o : Obj) : Three (w.alloc o) r x y z :=
  h.keep (q := w.heap.size) ((KeepBut.refl _ _).alloc o) (Nat.ne_of_lt h.lt)

/-- Four ints in block r, which may be written. -/
structure Four (w : World) (r : Nat) (x y z v : Int) : Prop where
  lt : r < w.heap.size
  c0 : w.cell? ⟨r, 0, none⟩ = some (.int .i64 x)
  c1 : w.cell? ⟨r, 1, none⟩ = some (.int .i64 y)
  c2 : w.cell? ⟨r, 2, none⟩ = some (.int .i64 z)
  c3 : w.cell? ⟨r, 3, none⟩ = some (.int .i64 v)
  f0 : w.frozen? ⟨r, 0, none⟩ = false
  f1 : w.frozen? ⟨r, 1, none⟩ = false
  f2 : w.frozen? ⟨r, 2, none⟩ = false
  f3 : w.frozen? ⟨r, 3, none⟩ = false
theorem Four.keep {w w' : World} {r q : Nat} {x y z v : Int} (h : Four w r x y z v) (k : KeepBut q w w') (hq : r ≠ q) : Four w' r x y z v :=
  ⟨Nat.lt_of_lt_of_le h.lt k.size, (k.cell (p := ⟨r, 0, none⟩) h.lt hq).trans h.c0, (k.cell (p := ⟨r, 1, none⟩) h.lt hq).trans h.c1, (k.cell (p := ⟨r, 2, none⟩) h.lt hq).trans h.c2, (k.cell (p := ⟨r, 3, none⟩) h.lt hq).trans h.c3,
    (k.frozen (p := ⟨r, 0, none⟩) h.lt hq).trans h.f0, (k.frozen (p := ⟨r, 1, none⟩) h.lt hq).trans h.f1, (k.frozen (p := ⟨r, 2, none⟩) h.lt hq).trans h.f2, (k.frozen (p := ⟨r, 3, none⟩) h.lt hq).trans h.f3⟩
theorem Four.new (w : World) (x y z v : Int) (T : TypeId) : Four (w.alloc (.cells #[.int .i64 x, .int .i64 y, .int .i64 z, .int .i64 v] T)) w.heap.size x y z v :=
  ⟨by simp, by simp, by simp, by simp, by simp, by simp, by simp, by simp, by simp⟩
theorem Four.below {w w' : World} {r : Nat} {x y z v : Int} (h : Four w r x y z v) (k : Below w.heap.size w w') : Four w' r x y z v :=
  h.keep (q := w.heap.size) (KeepBut.ofBelow k) (Nat.ne_of_lt h.lt)
theorem Four.alloc {w : World} {r : Nat} {x y z v : Int} (h : Four w r x y z v) (o : Obj) : Four (w.alloc o) r x y z v :=
  h.keep (q := w.heap.size) ((KeepBut.refl _ _).alloc o) (Nat.ne_of_lt h.lt)
end Go.Proofs.YtpkhnajhamnggaaDoor
