/- A word's block, a list of places that came in, and that nothing that was there has turned: kept over what turns. No condition. -/
import Derived.Test.YtpkhnajhamnggaaDoorFetA
import Derived.Deep.RegionHeld3
import Derived.Deep.CutBlock
namespace Go.Proofs.YtpkhnajhamnggaaDoor
open Go.ChangeShapes Go.WideShapes Go.ChangeAt Go.RowKit
set_option maxRecDepth 100000

structure Fx (w0 : World) (n : Int) (i : Bool) (b t p s : Int) (a : Option Addr) (len : Nat) (L : List In) (w : World) : Prop where
  six : Six w w0.heap.size n i b t p s
  sl : SliceI w0.heap.size w a len L
  bel : Below w0.heap.size w0 w
section
variable {w0 w w' : World} {n : Int} {i : Bool} {b t p s : Int} {a : Option Addr} {len : Nat} {L : List In}
theorem Fx.next (h : Fx w0 n i b t p s a len L w) (hb : Below w.heap.size w w') : Fx w0 n i b t p s a len L w' :=
  ⟨h.six.below hb, h.sl.keep (hb.mono h.bel.size), h.bel.trans (hb.mono h.bel.size)⟩
theorem Fx.drew (h : Fx w0 n i b t p s a len L w) : Fx w0 n i b t p s a len L w.drew := h.next (Below.refl _ _).drew
theorem Fx.alloc (h : Fx w0 n i b t p s a len L w) (o : Obj) : Fx w0 n i b t p s a len L (w.alloc o) := h.next ((Below.refl _ _).alloc (Nat.le_refl _) _)
theorem Fx.wr (h : Fx w0 n i b t p s a len L w) {r : Nat} (hr : w0.heap.size < r) (v0 v1 v2 v3 v4 : Value) : Fx w0 n i b t p s a len L (((((w.setCell ⟨r, 0, none⟩ v0).setCell ⟨r, 1, none⟩ v1).setCell ⟨r, 2, none⟩ v2).setCell ⟨r, 3, none⟩ v3).setCell ⟨r, 4, none⟩ v4) := by
  have k : KeepBut r w (((((w.setCell ⟨r, 0, none⟩ v0).setCell ⟨r, 1, none⟩ v1).setCell ⟨r, 2, none⟩ v2).setCell ⟨r, 3, none⟩ v3).setCell ⟨r, 4, none⟩ v4) := (((((KeepBut.refl r w).setCell _ _).setCell _ _).setCell _ _).setCell _ _).setCell _ _
  have kb := k.below (Nat.le_of_lt hr) h.bel.size
  exact ⟨h.six.keep k (Nat.ne_of_lt hr), h.sl.keep kb, h.bel.trans kb⟩
theorem slI_all (h : SliceI w.heap.size w a len L) (hb : Below w.heap.size w w') : SliceI w'.heap.size w' a len L := (h.keep hb).mono hb.size
theorem slI_alloc (h : SliceI w.heap.size w a len L) (o : Obj) : SliceI (w.alloc o).heap.size (w.alloc o) a len L := slI_all h ((Below.refl _ _).alloc (Nat.le_refl _) _)
end
theorem Fx.new (w : World) (n : Int) (i : Bool) (b t p s : Int) (a : Option Addr) (len : Nat) (L : List In) (T : TypeId) (h : SliceI w.heap.size w a len L) : Fx w n i b t p s a len L (w.alloc (.cells #[.int .i64 n, .bool i, .int .i64 b, .int .i64 t, .int .i64 p, .int .i64 s] T)) :=
  ⟨Six.new _ _ _ _ _ _ _ _, h.keep ((Below.refl _ _).alloc (Nat.le_refl _) _), (Below.refl _ _).alloc (Nat.le_refl _) _⟩
end Go.Proofs.YtpkhnajhamnggaaDoor
