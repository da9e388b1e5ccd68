/- InsText of the specification at all places: what it answers. No condition. -/
import Derived.Test.YtdcghcbliajcpaaDoorTxtD
import Derived.Test.YtdcghcbliajcpaaDoorInsK
import Derived.Deep.RegionHeld3
namespace Go.Proofs.YtdcghcbliajcpaaDoor
open Go.ChangeShapes Go.WideShapes Go.ChangeAt Go.RowKit
set_option maxRecDepth 100000

/-- The names of the ops in a block. -/
structure Nms (w : World) (k : Nat) : Prop where
  all : ∀ i, i < 16 → w.cell? ⟨k, i, none⟩ = some (.string (bs (nmL (i : Int))))
  lt : k < w.heap.size
theorem Nms.below {w w' : World} {k : Nat} (h : Nms w k) (hb : Below w.heap.size w w') : Nms w' k :=
  ⟨fun i hi => (hb.cell (World.block_lt_of_cell? _ _ (h.all i hi))).trans (h.all i hi), Nat.lt_of_lt_of_le h.lt hb.size⟩
theorem Nms.name {w : World} {k : Nat} (h : Nms w k) {o : Int} (h0 : 0 ≤ o) (h1 : o < 16) : w.cell? ⟨k, o.toNat, none⟩ = some (.string (bs (nmL o))) := by
  have := h.all o.toNat (by omega)
  rwa [Int.toNat_of_nonneg h0] at this

set_option maxHeartbeats 2000000 in
theorem names_any (w : World) :
    Calls Tryd.prog 36 #[] w fun e w' => ∃ k, e = .returned (.slice (some ⟨k, 0, none⟩) 16 16) ∧ Nms w' k ∧ w.heap.size ≤ k ∧ Below w.heap.size w w' := by
  go_enter Tryd.func36, Tryd.ntmps36
  go_wp2
  go_ret
  refine ⟨w.heap.size, rfl, ⟨?_, by simp⟩, Nat.le_refl _, (Below.refl _ _).alloc (Nat.le_refl _) _⟩
  intro i hi
  have h : i = 0 ∨ i = 1 ∨ i = 2 ∨ i = 3 ∨ i = 4 ∨ i = 5 ∨ i = 6 ∨ i = 7 ∨ i = 8 ∨ i = 9 ∨ i = 10 ∨ i = 11 ∨ i = 12 ∨ i = 13 ∨ i = 14 ∨ i = 15 := by omega
  rcases h with rfl | rfl | rfl | rfl | rfl | rfl | rfl | rfl | rfl | rfl | rfl | rfl | rfl | rfl | rfl | rfl <;> (rw [World.cell?_alloc_new]; rfl)
end Go.Proofs.YtdcghcbliajcpaaDoor
