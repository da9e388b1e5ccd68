/- markWordS, heldWordS, markBoolS, heldBoolS of the laws at rows that may be written: what is marked is held. No condition. -/
import Derived.Test.YtneohabkoighcaaBoolS
namespace Go.Proofs.Ytneohabkoighcaa
open Go.ChangeShapes Go.WideShapes Go.ChangeAt Go.RowKit
set_option maxRecDepth 100000

/-- A row of len words in block q from cell o on, which may be written; the first k are those of L. -/
structure RowW (w : World) (q o len k : Nat) (L : List Wd) : Prop where
  lt : q < w.heap.size
  has : ∀ i, i < len * 6 → (w.cell? ⟨q, o + i, none⟩).isSome = true
  fr : ∀ i, i < len * 6 → w.frozen? ⟨q, o + i, none⟩ = false
  wd : ∀ j x, j < k → L[j]? = some x → WordAt w q (o + j * 6) x
theorem OutW.row {w : World} {q len k : Nat} {L : List Wd} (h : OutW w q len k L) : RowW w q 0 len k L :=
  ⟨h.lt, fun i hi => by rw [Nat.zero_add]; exact h.has i hi, fun i hi => by rw [Nat.zero_add]; exact h.fr i hi, fun j x hj hx => by rw [Nat.zero_add]; exact h.wd j x hj hx⟩
theorem RowW.keepB {w w' : World} {q o len k b : Nat} {L : List Wd} (h : RowW w q o len k L) (g : KeepBut b w w') (hb : q ≠ b) : RowW w' q o len k L :=
  ⟨Nat.lt_of_lt_of_le h.lt g.size, fun i hi => by rw [g.cell (p := ⟨q, o + i, none⟩) h.lt hb]; exact h.has i hi, fun i hi => by rw [g.frozen (p := ⟨q, o + i, none⟩) h.lt hb]; exact h.fr i hi, fun j x hj hx => by
    refine WordAt.of_vs fun m v hm => ?_
    exact (g.cell (p := ⟨q, o + j * 6 + m, none⟩) h.lt hb).trans ((h.wd j x hj hx).vs m v hm)⟩
theorem RowW.below {w w' : World} {q o len k : Nat} {L : List Wd} (h : RowW w q o len k L) (hb : Below w.heap.size w w') : RowW w' q o len k L :=
  h.keepB (b := w.heap.size) (KeepBut.ofBelow hb) (Nat.ne_of_lt h.lt)
theorem RowW.first {w : World} {q o len k : Nat} {L : List Wd} (h : RowW w q o len k L) (M : List Wd) : RowW w q o len 0 M := ⟨h.lt, h.has, h.fr, fun _ _ hj => absurd hj (Nat.not_lt_zero _)⟩
theorem RowW.slice {w : World} {q o len : Nat} {L : List Wd} (h : RowW w q o len len L) (hl : L.length = len) (hm : len ≤ maxLen) : SliceW w.heap.size w (some ⟨q, o, none⟩) len L :=
  ⟨hm, hl, .inr ⟨q, o, rfl, h.lt, fun j x hj => h.wd j x (by have := (List.getElem?_eq_some_iff.1 hj).1; omega) hj⟩⟩
theorem RowW.set {w : World} {q o len k : Nat} {L : List Wd} {x : Wd} (h : RowW w q o len k L) (hk : k < len) (hx : L[k]? = some x) : RowW (w.setCells q (o + k * 6) x.vs) q o len (k + 1) L := by
  have hl : x.vs.length = 6 := rfl
  have out : ∀ i, (i < o + k * 6 ∨ o + k * 6 + 6 ≤ i) → (w.setCells q (o + k * 6) x.vs).cell? ⟨q, i, none⟩ = w.cell? ⟨q, i, none⟩ := fun i hi =>
    World.cell?_setCells_out q x.vs (o + k * 6) w ⟨q, i, none⟩ (fun _ _ => by rw [hl]; exact hi)
  have inn : ∀ j (hj : j < x.vs.length), (w.setCells q (o + k * 6) x.vs).cell? ⟨q, o + k * 6 + j, none⟩ = some x.vs[j] :=
    World.cell?_setCells_in q x.vs (o + k * 6) w (fun j hj => by
      have := h.has (k * 6 + j) (by rw [hl] at hj; omega)
      rwa [← Nat.add_assoc] at this)
  refine ⟨?_, fun i hi => ?_, fun i hi => ?_, fun j y hj hy => ?_⟩
  · have := h.lt
    simp only [Wd.vs, World.setCells, World.size_setCell]
    exact this
  · by_cases hio : o + i < o + k * 6 ∨ o + k * 6 + 6 ≤ o + i
    · rw [out _ hio]; exact h.has i hi
    · have := inn (i - k * 6) (by rw [hl]; omega)
      rw [show o + k * 6 + (i - k * 6) = o + i by omega] at this
      rw [this]; rfl
  · rw [World.frozen?_setCells]; exact h.fr i hi
  · by_cases hjk : j < k
    · refine WordAt.of_vs fun m v hm => ?_
      have hm6 : m < 6 := (List.getElem?_eq_some_iff.1 hm).1
      rw [out _ (by omega)]
      exact (h.wd j y hjk hy).vs m v hm
    · obtain rfl : j = k := by omega
      obtain rfl : x = y := by rw [hx] at hy; exact Option.some.inj hy
      refine WordAt.of_vs fun m v hm => ?_
      obtain ⟨hm6, rfl⟩ := List.getElem?_eq_some_iff.1 hm
      exact inn m hm6

/-- The word that is marked from m on. -/
def markWd (m : Int) : Wd := ⟨m, (m + 1) % 3 == 0, m + 1 + 1, m + 1 + 1 + 1, m + 1 + 1 + 1 + 1, m + 1 + 1 + 1 + 1 + 1⟩
/-- The marks of a list. -/
def marksW (k0 : Int) (len : Nat) : List Wd := (List.range len).map fun j : Nat => markWd (k0 + 6 * (j : Int))
theorem marksW_at {k0 : Int} {len k : Nat} (h : k < len) : (marksW k0 len)[k]? = some (markWd (k0 + 6 * (k : Int))) := by simp [marksW, h]
theorem marksW_len (k0 : Int) (len : Nat) : (marksW k0 len).length = len := by simp [marksW]

end Go.Proofs.Ytneohabkoighcaa
