/- A slice of places that came in, opened. -/
import Derived.Test.YtpkhnajhamnggaaDoorInsC
import Derived.Test.YtpkhnajhamnggaaDoorInsD
import Derived.ChangeOld
import Derived.Below
namespace Go.Proofs.YtpkhnajhamnggaaDoor
open Go.ChangeShapes Go.WideShapes Go.ChangeAt Go.RowKit Go.Joins Go.Deep

/-- A slice of places that came in. -/
theorem came_in {H : Type} {enc : TypeId × Value → H} {W : World} {sp : Nat → Bool} {held : Bool} {fuel : Nat} {a : Option Addr} {len cap : Nat} {x : DataW H × List MemPlace}
    (hf : DataW.trod enc Tryd.prog W 0 sp held fuel 22 [.slice a len cap] = some x) : ∃ L, SliceI W.heap.size W a len L := by
  rcases open_slice Tryd.underlying22 hf with ⟨hcs, _⟩ | ⟨ad, l, c, m, k, D, Pl, hcs, _, hl, hm, hmm, _, hel⟩
  · simp at hcs
    obtain ⟨rfl, rfl, rfl⟩ := hcs
    exact ⟨[], by unfold maxLen; omega, rfl, .inl rfl⟩
  · simp at hcs
    obtain ⟨rfl, rfl, rfl⟩ := hcs
    have hlm : len ≤ m := by rw [hmm]; split <;> omega
    have each : ∀ j, j < len → ∃ y : In, ∀ i v, y.vs[i]? = some v → W.cell? (ad.add (j * 5 + i)) = some v := by
      intro j hj
      obtain ⟨cs, hc, ht⟩ := hel j (by omega)
      obtain ⟨o, r, a, b, n, rfl⟩ := open_ins5 ht
      rw [cellsIns] at hc
      obtain ⟨_, _, hcell⟩ := World.cells?_some hc
      refine ⟨⟨o, r, a, b, n⟩, fun i' v hv => ?_⟩
      have h6 : i' < 5 := (List.getElem?_eq_some_iff.1 hv).1
      have := hcell i' h6
      rw [add_add] at this
      rw [this]
      exact hv
    haveI : Inhabited In := ⟨⟨0, 0, 0, 0, 0⟩⟩
    obtain ⟨f, hfn⟩ := choose_lt each
    refine ⟨(List.range len).map f, by omega, by simp, ?_⟩
    by_cases h0 : len = 0
    · exact .inl h0
    · right
      obtain ⟨b, off, spot⟩ := ad
      have hc0 := hfn 0 (by omega) 0 _ rfl
      have hspot : spot = none := by simpa [Addr.add] using World.cell?_spot hc0
      subst hspot
      refine ⟨b, off, rfl, ?_, fun j y hj => ?_⟩
      · have := World.block_lt_of_cell? _ _ hc0
        simpa [Addr.add] using this
      · simp only [List.getElem?_map, Option.map_eq_some_iff] at hj
        obtain ⟨j', hj', rfl⟩ := hj
        obtain ⟨hjl, hje⟩ := List.getElem?_eq_some_iff.1 hj'
        simp at hjl hje
        subst hje
        refine InsAt.of_vs fun i v hv => ?_
        have := hfn j hjl i v hv
        rw [Go.WideShapes.add_plain] at this
        rw [Nat.add_assoc]
        exact this

end Go.Proofs.YtpkhnajhamnggaaDoor
