/- A state of the laws as data: its three slices, its word and its trap are opened. No condition. -/
import Derived.Test.YtfeoaegkhbjaeaaMemD
import Derived.Test.YtfeoaegkhbjaeaaCel
namespace Go.Proofs.Ytfeoaegkhbjaeaa
open Go.ChangeShapes Go.WideShapes Go.ChangeAt Go.RowKit Go.Joins Go.Deep
set_option maxRecDepth 100000

theorem cellsSt : Try.prog.cellsOf 42 = 10 := by kernel_rfl
section
variable {H : Type} {enc : TypeId × Value → H} {W : World} {sp : Nat → Bool} {held : Bool}
/-- A memory's two cells, opened. -/
theorem mem_in {fuel : Nat} {cs : List Value} {x : DataW H × List MemPlace}
    (hf : DataW.trod enc Try.prog W 0 sp held fuel 25 cs = some x) : ∃ a n c a' n' c' L G, cs = [.slice a n c, .slice a' n' c'] ∧ MemS W a n a' n' L G := by
  obtain ⟨y0, y1, n, _, hl, h0, h1⟩ := trod_struct2 Try.underlying25 hf
  rw [cellsMem] at hl
  match cs, hl with
  | [v0, v1], _ =>
    simp only [cellsWS, cellsBS, List.drop, List.take] at h0 h1
    obtain ⟨a, k, c, L, e0, hL⟩ := words_in h0
    obtain ⟨a', k', c', G, e1, hG⟩ := bools_in h1
    simp at e0 e1
    subst e0 e1
    exact ⟨a, k, c, a', k', c', L, G, rfl, hL, hG⟩
/-- A state by value, opened. -/
theorem open_state {r : Reach} {b0 : Nat} {v : Value} {d : DataW H} {p : List MemPlace} (hv : Value.okWide Try.prog W r b0 42 v) (h : DataW.Trod enc Try.prog W 0 sp held 42 v d p) :
    ∃ a n c x a1 n1 c1 a2 n2 c2 t R L G, v = .agg (stl a n c x a1 n1 c1 a2 n2 c2 t).toArray ∧ StS W a n a1 n1 a2 n2 R L G := by
  obtain ⟨cs, rfl, hsz⟩ := okWide_struct Try.underlying42 hv
  obtain ⟨fuel, hf⟩ := h
  obtain ⟨y0, y1, y2, y3, n, _, hl, h0, h1, h2, h3⟩ := trod_struct4 Try.underlying42 hf
  rw [cellsSt] at hl
  obtain ⟨l⟩ := cs
  simp only [Value.cells] at hl h0 h1 h2 h3
  match l, hl with
  | [v0, v1, v2, v3, v4, v5, v6, v7, v8, v9], _ =>
    simp only [cellsWS, cellsW, cellsMem, cellsWI, List.drop, List.take] at h0 h1 h2 h3
    obtain ⟨a, k, c, R, e0, hR⟩ := words_in h0
    obtain ⟨n, i, b, t, q, s, e1, _⟩ := open_word6 h1
    obtain ⟨a1, n1, c1, a2, n2, c2, L, G, e2, hM⟩ := mem_in h2
    obtain ⟨tr, e3, _⟩ := DataW.trod_int Try.underlying3 h3
    simp at e0 e1 e2 e3
    obtain ⟨rfl, rfl, rfl, rfl, rfl, rfl⟩ := e1
    obtain ⟨rfl, rfl⟩ := e2
    subst e0 e3
    exact ⟨a, k, c, ⟨n, i, b, t, q, s⟩, a1, n1, c1, a2, n2, c2, tr, R, L, G, rfl, hR, hM⟩
end
end Go.Proofs.Ytfeoaegkhbjaeaa
