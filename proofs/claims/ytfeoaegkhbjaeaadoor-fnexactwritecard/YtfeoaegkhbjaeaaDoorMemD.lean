/- A memory of the laws as data: its two slices are opened. No condition. -/
import Derived.Test.YtfeoaegkhbjaeaaDoorMem
import Derived.Test.YtfeoaegkhbjaeaaDoorWordD
import Derived.ChangeOld
import Derived.ChangeSame
import Derived.Below
import Derived.Deep.Slices
import Derived.Deep.Strs
namespace Go.Proofs.YtfeoaegkhbjaeaaDoor
open Go.ChangeShapes Go.WideShapes Go.ChangeAt Go.RowKit Go.Joins Go.Deep
set_option maxRecDepth 100000

theorem cellsMem : Tryd.prog.cellsOf 51 = 2 := by kernel_rfl
theorem cellsWS : Tryd.prog.cellsOf 49 = 1 := by kernel_rfl
theorem cellsBS : Tryd.prog.cellsOf 25 = 1 := by kernel_rfl

section
variable {H : Type} {enc : TypeId × Value → H} {W : World} {sp : Nat → Bool} {held : Bool}
/-- A slice of words that came in: its one cell, opened. -/
theorem words_in {fuel : Nat} {cs : List Value} {x : DataW H × List MemPlace}
    (hf : DataW.trod enc Tryd.prog W 0 sp held fuel 49 cs = some x) : ∃ a len cap L, cs = [.slice a len cap] ∧ SliceW W.heap.size W a len L := by
  rcases open_slice Tryd.underlying49 hf with ⟨hcs, _⟩ | ⟨ad, len, cap, m, k, D, Pl, hcs, _, hl, hm, hmm, _, hel⟩
  · exact ⟨none, 0, 0, [], hcs, by unfold maxLen; omega, rfl, .inl rfl⟩
  · have hlm : len ≤ m := by rw [hmm]; split <;> omega
    have each : ∀ j, j < len → ∃ y : Wd, ∀ i v, y.vs[i]? = some v → W.cell? (ad.add (j * 6 + i)) = some v := by
      intro j hj
      obtain ⟨cs, hc, ht⟩ := hel j (by omega)
      obtain ⟨n, i, b, t, p, s, rfl, _, _, _, _, _, _⟩ := open_word6 ht
      rw [cellsW] at hc
      obtain ⟨_, _, hcell⟩ := World.cells?_some hc
      refine ⟨⟨n, i, b, t, p, s⟩, fun i' v hv => ?_⟩
      have h6 : i' < 6 := (List.getElem?_eq_some_iff.1 hv).1
      have := hcell i' h6
      rw [add_add] at this
      rw [this]
      exact hv
    haveI : Inhabited Wd := ⟨⟨0, false, 0, 0, 0, 0⟩⟩
    obtain ⟨f, hfn⟩ := choose_lt each
    refine ⟨some ad, len, cap, (List.range len).map f, hcs, by omega, by simp, ?_⟩
    by_cases h0 : len = 0
    · exact .inl h0
    · right
      obtain ⟨b, off, spot⟩ := ad
      have hc0 := hfn 0 (by omega) 0 _ rfl
      have hspot : spot = none := by simpa [Addr.add] using World.cell?_spot hc0
      subst hspot
      refine ⟨b, off, rfl, ?_, fun j y hj => ?_⟩
      · have := World.block_lt_of_cell? _ _ hc0
        simpa [Addr.add] using this
      · simp only [List.getElem?_map, Option.map_eq_some_iff] at hj
        obtain ⟨j', hj', rfl⟩ := hj
        obtain ⟨hjl, hje⟩ := List.getElem?_eq_some_iff.1 hj'
        simp at hjl hje
        subst hje
        refine WordAt.of_vs fun i v hv => ?_
        have := hfn j hjl i v hv
        rw [Go.WideShapes.add_plain] at this
        rw [Nat.add_assoc]
        exact this
/-- A slice of bools that came in: its one cell, opened. -/
theorem bools_in {fuel : Nat} {cs : List Value} {x : DataW H × List MemPlace}
    (hf : DataW.trod enc Tryd.prog W 0 sp held fuel 25 cs = some x) : ∃ a len cap L, cs = [.slice a len cap] ∧ SliceB W.heap.size W a len L := by
  rcases open_slice Tryd.underlying25 hf with ⟨hcs, _⟩ | ⟨ad, len, cap, m, k, D, Pl, hcs, _, hl, hm, hmm, _, hel⟩
  · exact ⟨none, 0, 0, [], hcs, by unfold maxLen; omega, rfl, .inl rfl⟩
  · have hlm : len ≤ m := by rw [hmm]; split <;> omega
    have each : ∀ j, j < len → ∃ y : Bool, W.cell? (ad.add j) = some (.bool y) := by
      intro j hj
      obtain ⟨cs, hc, ht⟩ := hel j (by omega)
      obtain ⟨y, rfl, _⟩ := DataW.trod_bool Tryd.underlying4 ht
      rw [cellsWB] at hc
      obtain ⟨_, _, hcell⟩ := World.cells?_some hc
      have := hcell 0 (by omega)
      rw [add_add, Nat.mul_one, Nat.add_zero] at this
      exact ⟨y, this⟩
    obtain ⟨f, hfn⟩ := choose_lt each
    refine ⟨some ad, len, cap, (List.range len).map f, hcs, by omega, by simp, ?_⟩
    by_cases h0 : len = 0
    · exact .inl h0
    · right
      obtain ⟨b, off, spot⟩ := ad
      have hc0 := hfn 0 (by omega)
      have hspot : spot = none := by simpa [Addr.add] using World.cell?_spot hc0
      subst hspot
      refine ⟨b, off, rfl, ?_, fun j y hj => ?_⟩
      · have := World.block_lt_of_cell? _ _ hc0
        simpa [Addr.add] using this
      · simp only [List.getElem?_map, Option.map_eq_some_iff] at hj
        obtain ⟨j', hj', rfl⟩ := hj
        obtain ⟨hjl, hje⟩ := List.getElem?_eq_some_iff.1 hj'
        simp at hjl hje
        subst hje
        have := hfn j hjl
        rw [Go.WideShapes.add_plain] at this
        exact this
/-- A memory by value, opened. -/
theorem open_mem {r : Reach} {b0 : Nat} {v : Value} {d : DataW H} {p : List MemPlace} (hv : Value.okWide Tryd.prog W r b0 51 v) (h : DataW.Trod enc Tryd.prog W 0 sp held 51 v d p) :
    ∃ a n c a' n' c' L G, v = .agg #[.slice a n c, .slice a' n' c'] ∧ MemS W a n a' n' L G := by
  obtain ⟨cs, rfl, hsz⟩ := okWide_struct Tryd.underlying51 hv
  obtain ⟨fuel, hf⟩ := h
  obtain ⟨y0, y1, n, _, hl, h0, h1⟩ := trod_struct2 Tryd.underlying51 hf
  rw [cellsMem] at hl
  obtain ⟨l⟩ := cs
  simp only [Value.cells] at hl h0 h1
  match l, hl with
  | [v0, v1], _ =>
    simp only [cellsWS, cellsBS, List.drop, List.take] at h0 h1
    obtain ⟨a, k, c, L, e0, hL⟩ := words_in h0
    obtain ⟨a', k', c', G, e1, hG⟩ := bools_in h1
    simp at e0 e1
    subst e0 e1
    exact ⟨a, k, c, a', k', c', L, G, rfl, hL, hG⟩
end
end Go.Proofs.YtfeoaegkhbjaeaaDoor
