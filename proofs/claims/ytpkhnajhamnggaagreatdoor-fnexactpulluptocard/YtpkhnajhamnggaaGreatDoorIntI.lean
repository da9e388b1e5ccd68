/- A slice of ints that came in, opened. No condition. -/
import Derived.Test.YtpkhnajhamnggaaGreatDoorIntS
import Derived.Test.YtpkhnajhamnggaaGreatDoorZE
import Derived.ChangeOld
import Derived.ChangeSame
import Derived.Below
import Derived.Deep.Slices
import Derived.Deep.Strs
namespace Go.Proofs.YtpkhnajhamnggaaGreatDoor
open Go.ChangeShapes Go.WideShapes Go.ChangeAt Go.RowKit Go.Joins Go.Deep
set_option maxRecDepth 100000

theorem ints_in {H : Type} {enc : TypeId × Value → H} {W : World} {sp : Nat → Bool} {held : Bool} {fuel : Nat} {a : Option Addr} {len cap : Nat} {x : DataW H × List MemPlace}
    (hf : DataW.trod enc Tryz.prog W 0 sp held fuel 52 [.slice a len cap] = some x) : ∃ L, SliceN W.heap.size W a len L := by
  rcases open_slice Tryz.underlying52 hf with ⟨hcs, _⟩ | ⟨ad, l, c, m, k, D, Pl, hcs, _, hl, hm, hmm, _, hel⟩
  · simp at hcs
    obtain ⟨rfl, rfl, rfl⟩ := hcs
    exact ⟨[], by unfold maxLen; omega, rfl, .inl rfl⟩
  · simp at hcs
    obtain ⟨rfl, rfl, rfl⟩ := hcs
    have hlm : len ≤ m := by rw [hmm]; split <;> omega
    have each : ∀ j, j < len → ∃ y : Int, W.cell? (ad.add j) = some (.int .i64 y) := by
      intro j hj
      obtain ⟨cs, hc, ht⟩ := hel j (by omega)
      obtain ⟨y, rfl, _⟩ := DataW.trod_int Tryz.underlying3 ht
      rw [cellsWI] at hc
      obtain ⟨_, _, hcell⟩ := World.cells?_some hc
      have := hcell 0 (by omega)
      rw [add_add, Nat.mul_one, Nat.add_zero] at this
      exact ⟨y, this⟩
    obtain ⟨f, hfn⟩ := choose_lt each
    refine ⟨(List.range len).map f, by omega, by simp, ?_⟩
    by_cases h0 : len = 0
    · exact .inl h0
    · right
      obtain ⟨b, off, spot⟩ := ad
      have hc0 := hfn 0 (by omega)
      have hspot : spot = none := by simpa [Addr.add] using World.cell?_spot hc0
      subst hspot
      refine ⟨b, off, rfl, ?_, fun j y hj => ?_⟩
      · have := World.block_lt_of_cell? _ _ hc0
        simpa [Addr.add] using this
      · simp only [List.getElem?_map, Option.map_eq_some_iff] at hj
        obtain ⟨j', hj', rfl⟩ := hj
        obtain ⟨hjl, hje⟩ := List.getElem?_eq_some_iff.1 hj'
        simp at hjl hje
        subst hje
        have := hfn j hjl
        rw [Go.WideShapes.add_plain] at this
        exact this
theorem ints_wf {H : Type} {enc : TypeId × Value → H} {W : World} {sp : Nat → Bool} {held : Bool} {fuel : Nat} {a : Option Addr} {len cap : Nat} {x : DataW H × List MemPlace}
    (hf : DataW.trod enc Tryz.prog W 0 sp held fuel 52 [.slice a len cap] = some x) : ∃ L, SliceN W.heap.size W a len L ∧ ∀ x ∈ L, (Lit.int .i64 x).wf = true := by
  rcases open_slice Tryz.underlying52 hf with ⟨hcs, _⟩ | ⟨ad, l, c, m, k, D, Pl, hcs, _, hl, hm, hmm, _, hel⟩
  · simp at hcs
    obtain ⟨rfl, rfl, rfl⟩ := hcs
    exact ⟨[], ⟨by unfold maxLen; omega, rfl, .inl rfl⟩, fun x hx => by cases hx⟩
  · simp at hcs
    obtain ⟨rfl, rfl, rfl⟩ := hcs
    have hlm : len ≤ m := by rw [hmm]; split <;> omega
    have each : ∀ j, j < len → ∃ y : Int, W.cell? (ad.add j) = some (.int .i64 y) ∧ (Lit.int .i64 y).wf = true := by
      intro j hj
      obtain ⟨cs, hc, ht⟩ := hel j (by omega)
      obtain ⟨y, rfl, _, hwy⟩ := DataW.trod_int Tryz.underlying3 ht
      rw [cellsWI] at hc
      obtain ⟨_, _, hcell⟩ := World.cells?_some hc
      have := hcell 0 (by omega)
      rw [add_add, Nat.mul_one, Nat.add_zero] at this
      exact ⟨y, this, hwy⟩
    obtain ⟨f, hfn⟩ := choose_lt each
    refine ⟨(List.range len).map f, ⟨by omega, by simp, ?_⟩, fun x hx => by
      obtain ⟨j, hj, rfl⟩ := List.mem_map.1 hx
      exact (hfn j (List.mem_range.1 hj)).2⟩
    by_cases h0 : len = 0
    · exact .inl h0
    · right
      obtain ⟨b, off, spot⟩ := ad
      have hc0 := (hfn 0 (by omega)).1
      have hspot : spot = none := by simpa [Addr.add] using World.cell?_spot hc0
      subst hspot
      refine ⟨b, off, rfl, ?_, fun j y hj => ?_⟩
      · have := World.block_lt_of_cell? _ _ hc0
        simpa [Addr.add] using this
      · simp only [List.getElem?_map, Option.map_eq_some_iff] at hj
        obtain ⟨j', hj', rfl⟩ := hj
        obtain ⟨hjl, hje⟩ := List.getElem?_eq_some_iff.1 hj'
        simp at hjl hje
        subst hje
        have := (hfn j hjl).1
        rw [Go.WideShapes.add_plain] at this
        exact this
end Go.Proofs.YtpkhnajhamnggaaGreatDoor
