/- What comes after a world: nothing that was there in it has turned. For regions whose operations may come in several orders. -/
import Derived.Test.YtpkhnajhamnggaaDoorKeyT
namespace Go.Proofs.YtpkhnajhamnggaaDoor
open Go.ChangeShapes Go.WideShapes Go.ChangeAt Go.RowKit

theorem hid_mk {p : Prop} (h : p) : Hid p := h

/-- w comes after W: of what was there in W nothing has turned. -/
def Aft (W w : World) : Prop := Below W.heap.size W w
theorem Aft.refl (W : World) : Aft W W := Below.refl _ _
theorem Aft.below {W w : World} (h : Aft W w) : Below W.heap.size W w := h
theorem Aft.call {W w w' : World} (h : Aft W w) (hb : Below w.heap.size w w') : Aft W w' := Below.trans h (hb.mono h.size)
theorem Aft.trans {W w w' : World} (h : Aft W w) (hb : Aft w w') : Aft W w' := h.call hb
theorem Aft.drew {W w : World} (h : Aft W w) : Aft W w.drew := Below.drew h
theorem Aft.drewN {W w : World} (h : Aft W w) (n : Nat) : Aft W (w.drewN n) := below_drewN h n
theorem Aft.alloc {W w : World} (h : Aft W w) (o : Obj) : Aft W (w.alloc o) := Below.alloc h h.size o
theorem Aft.set {W w : World} (h : Aft W w) {r o : Nat} {v : Value} (hr : W.heap.size ≤ r) : Aft W (w.setCell ⟨r, o, none⟩ v) := Below.setCell h hr v
/-- The last block may hold something else. -/
theorem Aft.realloc {W w : World} {o o' : Obj} (h : Aft W (w.alloc o)) (l : W.heap.size ≤ w.heap.size) : Aft W (w.alloc o') := by
  have h' : Below W.heap.size W (w.alloc o) := h
  have g := (Below.refl w.heap.size w).alloc (Nat.le_refl _) o
  have g' := (Below.refl w.heap.size w).alloc (Nat.le_refl _) o'
  exact ⟨g'.os.trans (g.os.symm.trans h'.os), g'.tape.trans (g.tape.symm.trans h'.tape), g'.output.trans (g.output.symm.trans h'.output), Nat.le_trans l g'.size,
    fun k hk => (g'.block k (Nat.lt_of_lt_of_le hk l)).trans ((g.block k (Nat.lt_of_lt_of_le hk l)).symm.trans (h'.block k hk))⟩
theorem Aft.four {W w : World} (h : Aft W w) {r : Nat} {x y z v : Int} (f : Four W r x y z v) : Four w r x y z v := f.below h
theorem Aft.two {w0 W w : World} (h : Aft W w) {r r' : Nat} {x0 x1 x2 x3 x4 x5 x6 x7 : Int} (f : TwoK w0 r r' x0 x1 x2 x3 x4 x5 x6 x7 W) : TwoK w0 r r' x0 x1 x2 x3 x4 x5 x6 x7 w := f.next h
end Go.Proofs.YtpkhnajhamnggaaDoor
