/- The draws of Draw over one bundle, 'Drawn': the code's bytes, the cursor, and what is kept; a number picked of a literal list is one of the list. -/
import Derived.Test.YtpkhnajhamnggaaDoorDraw
namespace Go.Proofs.YtpkhnajhamnggaaDoor
open Go.ChangeShapes Go.WideShapes Go.ChangeAt Go.RowKit

/-- A cursor in block q over the bytes that came in below block B. -/
structure Drawn (B q : Nat) (w : World) (a : Option Addr) (len cap : Nat) : Prop where
  code : Code8 B w a len
  hq : B ≤ q
  lt : q < w.heap.size
  cur : Cur w q a len cap

theorem Cur.keep {w w' : World} {q : Nat} {a : Option Addr} {len cap : Nat} (h : Cur w q a len cap) (hb : w'.heap[q]? = w.heap[q]?) : Cur w' q a len cap := by
  obtain ⟨i, x, h0, c0, c1, c2, f1, f2⟩ := h
  exact ⟨i, x, h0, (World.cell?_of_block (w := w) hb).trans c0, (World.cell?_of_block (w := w) hb).trans c1, (World.cell?_of_block (w := w) hb).trans c2, (World.frozen?_of_block (w := w) hb).trans f1, (World.frozen?_of_block (w := w) hb).trans f2⟩

theorem Drawn.keep {B q : Nat} {w w' : World} {a : Option Addr} {len cap : Nat} (d : Drawn B q w a len cap) (k : KeepBut q w w') (u : Cur w' q a len cap) : Drawn B q w' a len cap :=
  ⟨d.code.keep (k.below d.hq (Nat.le_of_lt (Nat.lt_of_le_of_lt d.hq d.lt))), d.hq, Nat.lt_of_lt_of_le d.lt k.size, u⟩
/-- What makes new memory alone keeps it. -/
theorem Drawn.below {B q : Nat} {w w' : World} {a : Option Addr} {len cap : Nat} (d : Drawn B q w a len cap) (h : Below w.heap.size w w') : Drawn B q w' a len cap :=
  d.keep (KeepBut.ofBelow h) (d.cur.keep (h.block q d.lt))
theorem Drawn.alloc {B q : Nat} {w : World} {a : Option Addr} {len cap : Nat} (d : Drawn B q w a len cap) (o : Obj) : Drawn B q (w.alloc o) a len cap :=
  d.below ((Below.refl _ _).alloc (Nat.le_refl _) _)
theorem Drawn.base {B q : Nat} {w : World} {a : Option Addr} {len cap : Nat} (d : Drawn B q w a len cap) : B ≤ w.heap.size := Nat.le_of_lt (Nat.lt_of_le_of_lt d.hq d.lt)

theorem new_list (zs : List Int) (T : TypeId) (w : World) (i : Nat) (hi : i < zs.length) :
    (w.alloc (.cells (zs.map (Value.int .i64)).toArray T)).cell? ⟨w.heap.size, i, none⟩ = some (.int .i64 zs[i]) := by
  simp [hi]

end Go.Proofs.YtpkhnajhamnggaaDoor
