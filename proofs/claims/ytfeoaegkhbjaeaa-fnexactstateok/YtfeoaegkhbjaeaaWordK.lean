/- KeyWord of the specification and of the program, at all keys and numbers: both answer the same. No condition. -/
import Derived.Test.YtfeoaegkhbjaeaaWordX
namespace Go.Proofs.Ytfeoaegkhbjaeaa
open Go.ChangeShapes Go.WideShapes Go.ChangeAt Go.RowKit

section
variable {w : World} {r : Nat} {n : Int} {i : Bool} {b t p s : Int}
theorem Six.set0 (h : Six w r n i b t p s) (m : Int) : Six (w.setCell ⟨r, 0, none⟩ (.int .i64 m)) r m i b t p s := by
  obtain ⟨l, c0, c1, c2, c3, c4, c5, f0, f1, f2, f3, f4, f5⟩ := h
  exact ⟨Nat.lt_of_lt_of_le l ((Below.refl 0 w).setCell (p := ⟨r, 0, none⟩) (Nat.zero_le _) _).size, by go_simp, by go_simp, by go_simp, by go_simp, by go_simp, by go_simp, by go_simp, by go_simp, by go_simp, by go_simp, by go_simp, by go_simp⟩
theorem Six.set1 (h : Six w r n i b t p s) (m : Bool) : Six (w.setCell ⟨r, 1, none⟩ (.bool m)) r n m b t p s := by
  obtain ⟨l, c0, c1, c2, c3, c4, c5, f0, f1, f2, f3, f4, f5⟩ := h
  exact ⟨Nat.lt_of_lt_of_le l ((Below.refl 0 w).setCell (p := ⟨r, 1, none⟩) (Nat.zero_le _) _).size, by go_simp, by go_simp, by go_simp, by go_simp, by go_simp, by go_simp, by go_simp, by go_simp, by go_simp, by go_simp, by go_simp, by go_simp⟩
theorem Six.set2 (h : Six w r n i b t p s) (m : Int) : Six (w.setCell ⟨r, 2, none⟩ (.int .i64 m)) r n i m t p s := by
  obtain ⟨l, c0, c1, c2, c3, c4, c5, f0, f1, f2, f3, f4, f5⟩ := h
  exact ⟨Nat.lt_of_lt_of_le l ((Below.refl 0 w).setCell (p := ⟨r, 2, none⟩) (Nat.zero_le _) _).size, by go_simp, by go_simp, by go_simp, by go_simp, by go_simp, by go_simp, by go_simp, by go_simp, by go_simp, by go_simp, by go_simp, by go_simp⟩
theorem Six.set3 (h : Six w r n i b t p s) (m : Int) : Six (w.setCell ⟨r, 3, none⟩ (.int .i64 m)) r n i b m p s := by
  obtain ⟨l, c0, c1, c2, c3, c4, c5, f0, f1, f2, f3, f4, f5⟩ := h
  exact ⟨Nat.lt_of_lt_of_le l ((Below.refl 0 w).setCell (p := ⟨r, 3, none⟩) (Nat.zero_le _) _).size, by go_simp, by go_simp, by go_simp, by go_simp, by go_simp, by go_simp, by go_simp, by go_simp, by go_simp, by go_simp, by go_simp, by go_simp⟩
theorem Six.set4 (h : Six w r n i b t p s) (m : Int) : Six (w.setCell ⟨r, 4, none⟩ (.int .i64 m)) r n i b t m s := by
  obtain ⟨l, c0, c1, c2, c3, c4, c5, f0, f1, f2, f3, f4, f5⟩ := h
  exact ⟨Nat.lt_of_lt_of_le l ((Below.refl 0 w).setCell (p := ⟨r, 4, none⟩) (Nat.zero_le _) _).size, by go_simp, by go_simp, by go_simp, by go_simp, by go_simp, by go_simp, by go_simp, by go_simp, by go_simp, by go_simp, by go_simp, by go_simp⟩
theorem Six.set5 (h : Six w r n i b t p s) (m : Int) : Six (w.setCell ⟨r, 5, none⟩ (.int .i64 m)) r n i b t p m := by
  obtain ⟨l, c0, c1, c2, c3, c4, c5, f0, f1, f2, f3, f4, f5⟩ := h
  exact ⟨Nat.lt_of_lt_of_le l ((Below.refl 0 w).setCell (p := ⟨r, 5, none⟩) (Nat.zero_le _) _).size, by go_simp, by go_simp, by go_simp, by go_simp, by go_simp, by go_simp, by go_simp, by go_simp, by go_simp, by go_simp, by go_simp, by go_simp⟩
end

end Go.Proofs.Ytfeoaegkhbjaeaa
