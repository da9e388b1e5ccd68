/- Words in their blocks, as a list: kept by whatever only makes new memory; and a list of one word, just laid. -/
import Derived.Test.YtehmlneaahbdoaaDoorWordL
import Derived.Test.YtehmlneaahbdoaaDoorAft
namespace Go.Proofs.YtehmlneaahbdoaaDoor
open Go.ChangeShapes Go.WideShapes Go.ChangeAt Go.RowKit

/-- Each block of L holds its word; what was there in w0 has not turned. -/
structure Rws (w0 : World) (L : List (Nat × Wd)) (w : World) : Prop where
  all : ∀ x ∈ L, Six w x.1 x.2.n x.2.i x.2.b x.2.t x.2.p x.2.s
  bel : Below w0.heap.size w0 w
section
variable {w0 w w' : World} {L : List (Nat × Wd)}
theorem Rws.none (h : Below w0.heap.size w0 w) : Rws w0 [] w := ⟨(by simp), h⟩
theorem Rws.next (h : Rws w0 L w) (hb : Below w.heap.size w w') : Rws w0 L w' := ⟨fun x hx => (h.all x hx).below hb, h.bel.trans (hb.mono h.bel.size)⟩
theorem Rws.drew (h : Rws w0 L w) : Rws w0 L w.drew := h.next (Below.refl _ _).drew
theorem Rws.alloc (h : Rws w0 L w) (o : Obj) : Rws w0 L (w.alloc o) := h.next ((Below.refl _ _).alloc (Nat.le_refl _) _)
theorem Rws.at (h : Rws w0 L w) {r : Nat} {n : Int} {i : Bool} {b t p s : Int} (hx : (r, (⟨n, i, b, t, p, s⟩ : Wd)) ∈ L) : Six w r n i b t p s := h.all _ hx
theorem Rws.push (h : Rws w0 L w) (n : Int) (i : Bool) (b t p s : Int) (T : TypeId) :
    Rws w0 ((w.heap.size, ⟨n, i, b, t, p, s⟩) :: L) (w.alloc (.cells #[.int .i64 n, .bool i, .int .i64 b, .int .i64 t, .int .i64 p, .int .i64 s] T)) := by
  refine ⟨fun x hx => ?_, (h.alloc _).bel⟩
  rcases List.mem_cons.1 hx with rfl | hx
  · exact Six.new w n i b t p s T
  · exact (h.alloc _).all x hx
end
theorem slice_one (w : World) (n : Int) (i : Bool) (b t p s : Int) (T : TypeId) :
    SliceW (w.alloc (.cells #[.int .i64 n, .bool i, .int .i64 b, .int .i64 t, .int .i64 p, .int .i64 s] T)).heap.size (w.alloc (.cells #[.int .i64 n, .bool i, .int .i64 b, .int .i64 t, .int .i64 p, .int .i64 s] T)) (some ⟨w.heap.size, 0, none⟩) 1 [⟨n, i, b, t, p, s⟩] := by
  refine ⟨by unfold maxLen; omega, rfl, .inr ⟨w.heap.size, 0, rfl, by simp, fun j y hj => ?_⟩⟩
  match j, hj with
  | 0, hj =>
    simp at hj
    subst hj
    have g := Six.new w n i b t p s T
    exact ⟨g.c0, g.c1, g.c2, g.c3, g.c4, g.c5⟩
  | j + 1, hj => simp at hj
end Go.Proofs.YtehmlneaahbdoaaDoor
