/- CodeOk of both sides at all lists. No condition. -/
import Derived.Test.YtpkhnajhamnggaaDoorInsL
namespace Go.Proofs.YtpkhnajhamnggaaDoor
open Go.ChangeShapes Go.WideShapes Go.ChangeAt Go.RowKit

/-- Whether a place is right. -/
def okI (x : In) : Bool := iokB x.o x.r x.a x.b x.n
/-- What CodeOk answers. -/
def cokB (L : List In) : Bool := decide (1 ≤ (L.length : Int) ∧ (L.length : Int) ≤ 48) && L.all okI

theorem all_take {L : List In} {k : Nat} {x : In} (h : L[k]? = some x) (h0 : (L.take k).all okI = true) (h1 : okI x = true) : (L.take (k + 1)).all okI = true := by
  rw [List.take_add_one, h]; simp [h0, h1]
theorem all_at {L : List In} {k : Nat} {x : In} (h : L[k]? = some x) (h1 : okI x = false) : L.all okI = false := by
  have hm := List.mem_of_getElem? h
  rw [← Bool.not_eq_true]
  intro ha
  have := List.all_eq_true.1 ha x hm
  rw [h1] at this
  cases this
theorem all_all {L : List In} {k : Nat} (h : L.length ≤ k) (h0 : (L.take k).all okI = true) : L.all okI = true := by
  rwa [List.take_of_length_le h] at h0

end Go.Proofs.YtpkhnajhamnggaaDoor
