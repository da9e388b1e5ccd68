/- markBoolS and heldBoolS of the laws at a row that may be written: what is marked is held. No condition. -/
import Derived.Test.YtneohabkoighcaaMarkW
namespace Go.Proofs.Ytneohabkoighcaa
open Go.ChangeShapes Go.WideShapes Go.ChangeAt Go.RowKit
set_option maxRecDepth 100000

/-- A row of len bools in block q from cell o on, which may be written; the first k are those of L. -/
structure RowB (w : World) (q o len k : Nat) (L : List Bool) : Prop where
  lt : q < w.heap.size
  has : ∀ i, i < len → (w.cell? ⟨q, o + i, none⟩).isSome = true
  fr : ∀ i, i < len → w.frozen? ⟨q, o + i, none⟩ = false
  wd : ∀ j x, j < k → L[j]? = some x → w.cell? ⟨q, o + j, none⟩ = some (.bool x)
theorem OutB.row {w : World} {q len k : Nat} {L : List Bool} (h : OutB w q len k L) : RowB w q 0 len k L :=
  ⟨h.lt, fun i hi => by rw [Nat.zero_add]; exact h.has i hi, fun i hi => by rw [Nat.zero_add]; exact h.fr i hi, fun j x hj hx => by rw [Nat.zero_add]; exact h.wd j x hj hx⟩
theorem RowB.keepB {w w' : World} {q o len k b : Nat} {L : List Bool} (h : RowB w q o len k L) (g : KeepBut b w w') (hb : q ≠ b) : RowB w' q o len k L :=
  ⟨Nat.lt_of_lt_of_le h.lt g.size, fun i hi => by rw [g.cell (p := ⟨q, o + i, none⟩) h.lt hb]; exact h.has i hi, fun i hi => by rw [g.frozen (p := ⟨q, o + i, none⟩) h.lt hb]; exact h.fr i hi, fun j x hj hx => (g.cell (p := ⟨q, o + j, none⟩) h.lt hb).trans (h.wd j x hj hx)⟩
theorem RowB.below {w w' : World} {q o len k : Nat} {L : List Bool} (h : RowB w q o len k L) (hb : Below w.heap.size w w') : RowB w' q o len k L :=
  h.keepB (b := w.heap.size) (KeepBut.ofBelow hb) (Nat.ne_of_lt h.lt)
theorem RowB.first {w : World} {q o len k : Nat} {L : List Bool} (h : RowB w q o len k L) (M : List Bool) : RowB w q o len 0 M := ⟨h.lt, h.has, h.fr, fun _ _ hj => absurd hj (Nat.not_lt_zero _)⟩
theorem RowB.slice {w : World} {q o len : Nat} {L : List Bool} (h : RowB w q o len len L) (hl : L.length = len) (hm : len ≤ maxLen) : SliceB w.heap.size w (some ⟨q, o, none⟩) len L :=
  ⟨hm, hl, .inr ⟨q, o, rfl, h.lt, fun j x hj => h.wd j x (by have := (List.getElem?_eq_some_iff.1 hj).1; omega) hj⟩⟩
theorem RowB.set {w : World} {q o len k : Nat} {L : List Bool} {x : Bool} (h : RowB w q o len k L) (hk : k < len) (hx : L[k]? = some x) : RowB (w.setCell ⟨q, o + k, none⟩ (.bool x)) q o len (k + 1) L := by
  have inn : (w.setCell ⟨q, o + k, none⟩ (.bool x)).cell? ⟨q, o + k, none⟩ = some (.bool x) := World.cell?_setCells_in q [.bool x] (o + k) w (fun j hj => by
    simp at hj
    subst hj
    exact h.has k hk) 0 (by simp)
  have out : ∀ i, i ≠ k → (w.setCell ⟨q, o + k, none⟩ (.bool x)).cell? ⟨q, o + i, none⟩ = w.cell? ⟨q, o + i, none⟩ := fun i hi =>
    World.cell?_setCells_out q [.bool x] (o + k) w ⟨q, o + i, none⟩ (fun _ _ => by simp; omega)
  refine ⟨by rw [World.size_setCell]; exact h.lt, fun i hi => ?_, fun i hi => ?_, fun j y hj hy => ?_⟩
  · by_cases hik : i = k
    · subst hik; rw [inn]; rfl
    · rw [out i hik]; exact h.has i hi
  · have := World.frozen?_setCells (w := w) q [.bool x] (o + k) ⟨q, o + i, none⟩
    exact this.trans (h.fr i hi)
  · by_cases hjk : j = k
    · subst hjk
      obtain rfl : x = y := by rw [hx] at hy; exact Option.some.inj hy
      exact inn
    · rw [out j hjk]; exact h.wd j y (by omega) hy

/-- The marks of a list of bools. -/
def marksB (k0 : Int) (len : Nat) : List Bool := (List.range len).map fun j : Nat => (k0 + (j : Int)) % 3 == 0
theorem marksB_at {k0 : Int} {len k : Nat} (h : k < len) : (marksB k0 len)[k]? = some ((k0 + (k : Int)) % 3 == 0) := by simp [marksB, h]
theorem marksB_len (k0 : Int) (len : Nat) : (marksB k0 len).length = len := by simp [marksB]

end Go.Proofs.Ytneohabkoighcaa
