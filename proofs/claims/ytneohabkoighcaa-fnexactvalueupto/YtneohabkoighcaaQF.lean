/- A word of the laws as data: six cells of it are opened and shut. No condition. · A place (Ins) of the laws as data: its five cells are opened. No condition. · A memory of the laws as data: its two slices are opened. No condition. · A state of the laws as data: its three slices, its word and its trap are opened. No condition. · A slice of ints that came in, opened. No condition. · A core of the laws as data: its slices, words, numbers are opened; what is read of it is no less than six values an entry. No condition. -/
import Derived.Test.YtneohabkoighcaaRows
import Derived.WalkKit
import Derived.ProofKit
import Derived.OpenShut
import Derived.Lib.SmallJoins
import Derived.Deep.Slices
import Derived.Deep.Strs
import Derived.Test.YtneohabkoighcaaMem
import Derived.ChangeOld
import Derived.ChangeSame
import Derived.Below
import Derived.Test.YtneohabkoighcaaQA
import Derived.Test.YtneohabkoighcaaQC
import Derived.Test.YtneohabkoighcaaQE
namespace Go.Proofs.Ytneohabkoighcaa
open Go.ChangeShapes Go.WideShapes Go.ChangeAt Go.RowKit Go.Joins Go.Deep
set_option maxRecDepth 100000

theorem cellsW : Try.prog.cellsOf 26 = 6 := by kernel_rfl
theorem cellsWK : Try.prog.cellsOf 24 = 4 := by kernel_rfl
theorem cellsWI : Try.prog.cellsOf 3 = 1 := by kernel_rfl
theorem cellsWB : Try.prog.cellsOf 4 = 1 := by kernel_rfl

section
variable {H : Type} {enc : TypeId × Value → H} {W : World} {base : Nat} {sp : Nat → Bool} {held : Bool}

/-- A key's four cells, opened. -/
theorem open_key4 {fuel : Nat} {cs : List Value} {x : DataW H × List MemPlace} (h : DataW.trod enc Try.prog W base sp held fuel 24 cs = some x) :
    ∃ b t p s : Int, cs = [.int .i64 b, .int .i64 t, .int .i64 p, .int .i64 s] ∧ x = (.agg [.lit (.int .i64 b), .lit (.int .i64 t), .lit (.int .i64 p), .lit (.int .i64 s)], []) ∧
      (Lit.int .i64 b).wf = true ∧ (Lit.int .i64 t).wf = true ∧ (Lit.int .i64 p).wf = true ∧ (Lit.int .i64 s).wf = true := by
  obtain ⟨y0, y1, y2, y3, n, rfl, hl, h0, h1, h2, h3⟩ := trod_struct4 Try.underlying24 h
  rw [cellsWK] at hl
  match cs, hl with
  | [v0, v1, v2, v3], _ =>
    simp only [cellsWI, List.drop, List.take] at h0 h1 h2 h3
    obtain ⟨b, e0, rfl, wb⟩ := DataW.trod_int Try.underlying3 h0
    obtain ⟨t, e1, rfl, wt⟩ := DataW.trod_int Try.underlying3 h1
    obtain ⟨p, e2, rfl, wp⟩ := DataW.trod_int Try.underlying3 h2
    obtain ⟨s, e3, rfl, ws⟩ := DataW.trod_int Try.underlying3 h3
    simp at e0 e1 e2 e3
    subst e0 e1 e2 e3
    exact ⟨b, t, p, s, rfl, rfl, wb, wt, wp, ws⟩

theorem shut_key4 {b t p s : Int} (wb : (Lit.int .i64 b).wf = true) (wt : (Lit.int .i64 t).wf = true) (wp : (Lit.int .i64 p).wf = true) (ws : (Lit.int .i64 s).wf = true) :
    DataW.trod enc Try.prog W base sp held 2 24 [.int .i64 b, .int .i64 t, .int .i64 p, .int .i64 s] = some (.agg [.lit (.int .i64 b), .lit (.int .i64 t), .lit (.int .i64 p), .lit (.int .i64 s)], []) :=
  trod_struct4_mk (n := 1) (y0 := (.lit (.int .i64 b), [])) (y1 := (.lit (.int .i64 t), [])) (y2 := (.lit (.int .i64 p), [])) (y3 := (.lit (.int .i64 s), [])) Try.underlying24 (by rw [cellsWK]; rfl)
    (by simp [cellsWI, DataW.trod, Try.underlying3, wb]) (by simp [cellsWI, DataW.trod, Try.underlying3, wt]) (by simp [cellsWI, DataW.trod, Try.underlying3, wp]) (by simp [cellsWI, DataW.trod, Try.underlying3, ws])

/-- A word's six cells, opened. -/
theorem open_word6 {fuel : Nat} {cs : List Value} {x : DataW H × List MemPlace} (h : DataW.trod enc Try.prog W base sp held fuel 26 cs = some x) :
    ∃ (n : Int) (i : Bool) (b t p s : Int), cs = [.int .i64 n, .bool i, .int .i64 b, .int .i64 t, .int .i64 p, .int .i64 s] ∧
      x = (.agg [.lit (.int .i64 n), .lit (.bool i), .agg [.lit (.int .i64 b), .lit (.int .i64 t), .lit (.int .i64 p), .lit (.int .i64 s)]], []) ∧
      (Lit.int .i64 n).wf = true ∧ (Lit.int .i64 b).wf = true ∧ (Lit.int .i64 t).wf = true ∧ (Lit.int .i64 p).wf = true ∧ (Lit.int .i64 s).wf = true := by
  obtain ⟨y0, y1, y2, n, rfl, hl, h0, h1, h2⟩ := trod_struct3 Try.underlying26 h
  rw [cellsW] at hl
  match cs, hl with
  | [v0, v1, v2, v3, v4, v5], _ =>
    simp only [cellsWI, cellsWB, cellsWK, List.drop, List.take] at h0 h1 h2
    obtain ⟨n, e0, rfl, wn⟩ := DataW.trod_int Try.underlying3 h0
    obtain ⟨i, e1, rfl⟩ := DataW.trod_bool Try.underlying4 h1
    obtain ⟨b, t, p, s, e2, rfl, wb, wt, wp, ws⟩ := open_key4 h2
    simp at e0 e1 e2
    obtain ⟨rfl, rfl, rfl, rfl⟩ := e2
    subst e0 e1
    exact ⟨n, i, b, t, p, s, rfl, rfl, wn, wb, wt, wp, ws⟩

theorem shut_word6 {n : Int} {i : Bool} {b t p s : Int} (wn : (Lit.int .i64 n).wf = true) (wb : (Lit.int .i64 b).wf = true) (wt : (Lit.int .i64 t).wf = true) (wp : (Lit.int .i64 p).wf = true) (ws : (Lit.int .i64 s).wf = true) :
    DataW.trod enc Try.prog W base sp held 3 26 [.int .i64 n, .bool i, .int .i64 b, .int .i64 t, .int .i64 p, .int .i64 s] =
      some (.agg [.lit (.int .i64 n), .lit (.bool i), .agg [.lit (.int .i64 b), .lit (.int .i64 t), .lit (.int .i64 p), .lit (.int .i64 s)]], []) :=
  trod_struct3_mk (n := 2) (y0 := (.lit (.int .i64 n), [])) (y1 := (.lit (.bool i), [])) (y2 := (.agg [.lit (.int .i64 b), .lit (.int .i64 t), .lit (.int .i64 p), .lit (.int .i64 s)], [])) Try.underlying26 (by rw [cellsW]; rfl)
    (by simp [cellsWI, DataW.trod, Try.underlying3, wn]) (by simp [cellsWB, DataW.trod, Try.underlying4]) (by simpa [cellsWK] using shut_key4 wb wt wp ws)

/-- A word by value, opened. -/
theorem open_word {r : Reach} {b0 : Nat} {v : Value} {d : DataW H} {p : List MemPlace} (hv : Value.okWide Try.prog W r b0 26 v) (h : DataW.Trod enc Try.prog W base sp held 26 v d p) :
    ∃ (n : Int) (i : Bool) (b t q s : Int), v = .agg #[.int .i64 n, .bool i, .int .i64 b, .int .i64 t, .int .i64 q, .int .i64 s] ∧
      d = .agg [.lit (.int .i64 n), .lit (.bool i), .agg [.lit (.int .i64 b), .lit (.int .i64 t), .lit (.int .i64 q), .lit (.int .i64 s)]] ∧ p = [] ∧
      (Lit.int .i64 n).wf = true ∧ (Lit.int .i64 b).wf = true ∧ (Lit.int .i64 t).wf = true ∧ (Lit.int .i64 q).wf = true ∧ (Lit.int .i64 s).wf = true := by
  obtain ⟨cs, rfl, hsz⟩ := okWide_struct Try.underlying26 hv
  obtain ⟨fuel, hf⟩ := h
  obtain ⟨n, i, b, t, q, s, hc, hx, wn, wb, wt, wq, ws⟩ := open_word6 hf
  simp only [Prod.mk.injEq] at hx
  obtain ⟨l⟩ := cs
  simp [Value.cells] at hc
  subst hc
  exact ⟨n, i, b, t, q, s, rfl, hx.1, hx.2, wn, wb, wt, wq, ws⟩

theorem shut_word {n : Int} {i : Bool} {b t p s : Int} (wn : (Lit.int .i64 n).wf = true) (wb : (Lit.int .i64 b).wf = true) (wt : (Lit.int .i64 t).wf = true) (wp : (Lit.int .i64 p).wf = true) (ws : (Lit.int .i64 s).wf = true) :
    DataW.Trod enc Try.prog W base sp held 26 (.agg #[.int .i64 n, .bool i, .int .i64 b, .int .i64 t, .int .i64 p, .int .i64 s])
      (.agg [.lit (.int .i64 n), .lit (.bool i), .agg [.lit (.int .i64 b), .lit (.int .i64 t), .lit (.int .i64 p), .lit (.int .i64 s)]]) [] :=
  ⟨3, by simpa [Value.cells] using shut_word6 wn wb wt wp ws⟩
end
end Go.Proofs.Ytneohabkoighcaa

namespace Go.Proofs.Ytneohabkoighcaa
open Go.ChangeShapes Go.WideShapes Go.ChangeAt Go.RowKit Go.Joins Go.Deep
set_option maxRecDepth 100000

theorem cellsIns : Try.prog.cellsOf 96 = 5 := by kernel_rfl
theorem cellsInt : Try.prog.cellsOf 3 = 1 := by kernel_rfl

section
variable {H : Type} {enc : TypeId × Value → H} {W : World} {base : Nat} {sp : Nat → Bool} {held : Bool}

theorem trod_struct5 {P : Program} {t : TypeId} {f0 f1 f2 f3 f4 : Field} {fuel : Nat} {cs : List Value} {x : DataW H × List MemPlace} (ht : P.underlying t = some (.struct #[f0, f1, f2, f3, f4])) (h : DataW.trod enc P W base sp held fuel t cs = some x) :
    ∃ (y0 y1 y2 y3 y4 : DataW H × List MemPlace) (n : Nat), cs.length = P.cellsOf t ∧
      DataW.trod enc P W base sp held n f0.type ((cs.drop f0.offset).take (P.cellsOf f0.type)) = some y0 ∧ DataW.trod enc P W base sp held n f1.type ((cs.drop f1.offset).take (P.cellsOf f1.type)) = some y1 ∧
      DataW.trod enc P W base sp held n f2.type ((cs.drop f2.offset).take (P.cellsOf f2.type)) = some y2 ∧ DataW.trod enc P W base sp held n f3.type ((cs.drop f3.offset).take (P.cellsOf f3.type)) = some y3 ∧
      DataW.trod enc P W base sp held n f4.type ((cs.drop f4.offset).take (P.cellsOf f4.type)) = some y4 := by
  obtain ⟨xs, n, _, rfl, hl, hlen, hf⟩ := DataW.trod_struct ht h
  match xs, hlen with
  | [y0, y1, y2, y3, y4], _ => exact ⟨y0, y1, y2, y3, y4, n, hl, by simpa using hf 0 f0 rfl, by simpa using hf 1 f1 rfl, by simpa using hf 2 f2 rfl, by simpa using hf 3 f3 rfl, by simpa using hf 4 f4 rfl⟩

/-- A place's five cells, opened. -/
theorem open_ins5 {fuel : Nat} {cs : List Value} {x : DataW H × List MemPlace} (h : DataW.trod enc Try.prog W base sp held fuel 96 cs = some x) :
    ∃ o r a b n : Int, cs = [.int .i64 o, .int .i64 r, .int .i64 a, .int .i64 b, .int .i64 n] := by
  obtain ⟨y0, y1, y2, y3, y4, n, hl, h0, h1, h2, h3, h4⟩ := trod_struct5 Try.underlying96 h
  rw [cellsIns] at hl
  match cs, hl with
  | [v0, v1, v2, v3, v4], _ =>
    simp only [cellsInt, List.drop, List.take] at h0 h1 h2 h3 h4
    obtain ⟨o, e0, _, _⟩ := DataW.trod_int Try.underlying3 h0
    obtain ⟨r, e1, _, _⟩ := DataW.trod_int Try.underlying3 h1
    obtain ⟨a, e2, _, _⟩ := DataW.trod_int Try.underlying3 h2
    obtain ⟨b, e3, _, _⟩ := DataW.trod_int Try.underlying3 h3
    obtain ⟨m, e4, _, _⟩ := DataW.trod_int Try.underlying3 h4
    simp at e0 e1 e2 e3 e4
    subst e0 e1 e2 e3 e4
    exact ⟨o, r, a, b, m, rfl⟩

/-- A place by value, opened. -/
theorem open_ins {r : Reach} {b0 : Nat} {v : Value} {d : DataW H} {p : List MemPlace} (hv : Value.okWide Try.prog W r b0 96 v) (h : DataW.Trod enc Try.prog W base sp held 96 v d p) :
    ∃ o r a b n : Int, v = .agg #[.int .i64 o, .int .i64 r, .int .i64 a, .int .i64 b, .int .i64 n] := by
  obtain ⟨cs, rfl, hsz⟩ := okWide_struct Try.underlying96 hv
  obtain ⟨fuel, hf⟩ := h
  obtain ⟨o, r, a, b, n, hc⟩ := open_ins5 hf
  obtain ⟨l⟩ := cs
  simp [Value.cells] at hc
  subst hc
  exact ⟨o, r, a, b, n, rfl⟩
end
end Go.Proofs.Ytneohabkoighcaa

namespace Go.Proofs.Ytneohabkoighcaa
open Go.ChangeShapes Go.WideShapes Go.ChangeAt Go.RowKit Go.Joins Go.Deep
set_option maxRecDepth 100000

theorem cellsMem : Try.prog.cellsOf 29 = 2 := by kernel_rfl
theorem cellsWS : Try.prog.cellsOf 22 = 1 := by kernel_rfl
theorem cellsBS : Try.prog.cellsOf 27 = 1 := by kernel_rfl

section
variable {H : Type} {enc : TypeId × Value → H} {W : World} {sp : Nat → Bool} {held : Bool}
/-- A slice of words that came in: its one cell, opened. -/
theorem words_in {fuel : Nat} {cs : List Value} {x : DataW H × List MemPlace}
    (hf : DataW.trod enc Try.prog W 0 sp held fuel 22 cs = some x) : ∃ a len cap L, cs = [.slice a len cap] ∧ SliceW W.heap.size W a len L := by
  rcases open_slice Try.underlying22 hf with ⟨hcs, _⟩ | ⟨ad, len, cap, m, k, D, Pl, hcs, _, hl, hm, hmm, _, hel⟩
  · exact ⟨none, 0, 0, [], hcs, by unfold maxLen; omega, rfl, .inl rfl⟩
  · have hlm : len ≤ m := by rw [hmm]; split <;> omega
    have each : ∀ j, j < len → ∃ y : Wd, ∀ i v, y.vs[i]? = some v → W.cell? (ad.add (j * 6 + i)) = some v := by
      intro j hj
      obtain ⟨cs, hc, ht⟩ := hel j (by omega)
      obtain ⟨n, i, b, t, p, s, rfl, _, _, _, _, _, _⟩ := open_word6 ht
      rw [cellsW] at hc
      obtain ⟨_, _, hcell⟩ := World.cells?_some hc
      refine ⟨⟨n, i, b, t, p, s⟩, fun i' v hv => ?_⟩
      have h6 : i' < 6 := (List.getElem?_eq_some_iff.1 hv).1
      have := hcell i' h6
      rw [add_add] at this
      rw [this]
      exact hv
    haveI : Inhabited Wd := ⟨⟨0, false, 0, 0, 0, 0⟩⟩
    obtain ⟨f, hfn⟩ := choose_lt each
    refine ⟨some ad, len, cap, (List.range len).map f, hcs, by omega, by simp, ?_⟩
    by_cases h0 : len = 0
    · exact .inl h0
    · right
      obtain ⟨b, off, spot⟩ := ad
      have hc0 := hfn 0 (by omega) 0 _ rfl
      have hspot : spot = none := by simpa [Addr.add] using World.cell?_spot hc0
      subst hspot
      refine ⟨b, off, rfl, ?_, fun j y hj => ?_⟩
      · have := World.block_lt_of_cell? _ _ hc0
        simpa [Addr.add] using this
      · simp only [List.getElem?_map, Option.map_eq_some_iff] at hj
        obtain ⟨j', hj', rfl⟩ := hj
        obtain ⟨hjl, hje⟩ := List.getElem?_eq_some_iff.1 hj'
        simp at hjl hje
        subst hje
        refine WordAt.of_vs fun i v hv => ?_
        have := hfn j hjl i v hv
        rw [Go.WideShapes.add_plain] at this
        rw [Nat.add_assoc]
        exact this
/-- A slice of bools that came in: its one cell, opened. -/
theorem bools_in {fuel : Nat} {cs : List Value} {x : DataW H × List MemPlace}
    (hf : DataW.trod enc Try.prog W 0 sp held fuel 27 cs = some x) : ∃ a len cap L, cs = [.slice a len cap] ∧ SliceB W.heap.size W a len L := by
  rcases open_slice Try.underlying27 hf with ⟨hcs, _⟩ | ⟨ad, len, cap, m, k, D, Pl, hcs, _, hl, hm, hmm, _, hel⟩
  · exact ⟨none, 0, 0, [], hcs, by unfold maxLen; omega, rfl, .inl rfl⟩
  · have hlm : len ≤ m := by rw [hmm]; split <;> omega
    have each : ∀ j, j < len → ∃ y : Bool, W.cell? (ad.add j) = some (.bool y) := by
      intro j hj
      obtain ⟨cs, hc, ht⟩ := hel j (by omega)
      obtain ⟨y, rfl, _⟩ := DataW.trod_bool Try.underlying4 ht
      rw [cellsWB] at hc
      obtain ⟨_, _, hcell⟩ := World.cells?_some hc
      have := hcell 0 (by omega)
      rw [add_add, Nat.mul_one, Nat.add_zero] at this
      exact ⟨y, this⟩
    obtain ⟨f, hfn⟩ := choose_lt each
    refine ⟨some ad, len, cap, (List.range len).map f, hcs, by omega, by simp, ?_⟩
    by_cases h0 : len = 0
    · exact .inl h0
    · right
      obtain ⟨b, off, spot⟩ := ad
      have hc0 := hfn 0 (by omega)
      have hspot : spot = none := by simpa [Addr.add] using World.cell?_spot hc0
      subst hspot
      refine ⟨b, off, rfl, ?_, fun j y hj => ?_⟩
      · have := World.block_lt_of_cell? _ _ hc0
        simpa [Addr.add] using this
      · simp only [List.getElem?_map, Option.map_eq_some_iff] at hj
        obtain ⟨j', hj', rfl⟩ := hj
        obtain ⟨hjl, hje⟩ := List.getElem?_eq_some_iff.1 hj'
        simp at hjl hje
        subst hje
        have := hfn j hjl
        rw [Go.WideShapes.add_plain] at this
        exact this
/-- A memory by value, opened. -/
theorem open_mem {r : Reach} {b0 : Nat} {v : Value} {d : DataW H} {p : List MemPlace} (hv : Value.okWide Try.prog W r b0 29 v) (h : DataW.Trod enc Try.prog W 0 sp held 29 v d p) :
    ∃ a n c a' n' c' L G, v = .agg #[.slice a n c, .slice a' n' c'] ∧ MemS W a n a' n' L G := by
  obtain ⟨cs, rfl, hsz⟩ := okWide_struct Try.underlying29 hv
  obtain ⟨fuel, hf⟩ := h
  obtain ⟨y0, y1, n, _, hl, h0, h1⟩ := trod_struct2 Try.underlying29 hf
  rw [cellsMem] at hl
  obtain ⟨l⟩ := cs
  simp only [Value.cells] at hl h0 h1
  match l, hl with
  | [v0, v1], _ =>
    simp only [cellsWS, cellsBS, List.drop, List.take] at h0 h1
    obtain ⟨a, k, c, L, e0, hL⟩ := words_in h0
    obtain ⟨a', k', c', G, e1, hG⟩ := bools_in h1
    simp at e0 e1
    subst e0 e1
    exact ⟨a, k, c, a', k', c', L, G, rfl, hL, hG⟩
end
end Go.Proofs.Ytneohabkoighcaa

namespace Go.Proofs.Ytneohabkoighcaa
open Go.ChangeShapes Go.WideShapes Go.ChangeAt Go.RowKit Go.Joins Go.Deep
set_option maxRecDepth 100000

theorem cellsSt : Try.prog.cellsOf 31 = 10 := by kernel_rfl
section
variable {H : Type} {enc : TypeId × Value → H} {W : World} {sp : Nat → Bool} {held : Bool}
/-- A memory's two cells, opened. -/
theorem mem_in {fuel : Nat} {cs : List Value} {x : DataW H × List MemPlace}
    (hf : DataW.trod enc Try.prog W 0 sp held fuel 29 cs = some x) : ∃ a n c a' n' c' L G, cs = [.slice a n c, .slice a' n' c'] ∧ MemS W a n a' n' L G := by
  obtain ⟨y0, y1, n, _, hl, h0, h1⟩ := trod_struct2 Try.underlying29 hf
  rw [cellsMem] at hl
  match cs, hl with
  | [v0, v1], _ =>
    simp only [cellsWS, cellsBS, List.drop, List.take] at h0 h1
    obtain ⟨a, k, c, L, e0, hL⟩ := words_in h0
    obtain ⟨a', k', c', G, e1, hG⟩ := bools_in h1
    simp at e0 e1
    subst e0 e1
    exact ⟨a, k, c, a', k', c', L, G, rfl, hL, hG⟩
/-- A state by value, opened. -/
theorem open_state {r : Reach} {b0 : Nat} {v : Value} {d : DataW H} {p : List MemPlace} (hv : Value.okWide Try.prog W r b0 31 v) (h : DataW.Trod enc Try.prog W 0 sp held 31 v d p) :
    ∃ a n c x a1 n1 c1 a2 n2 c2 t R L G, v = .agg (stl a n c x a1 n1 c1 a2 n2 c2 t).toArray ∧ StS W a n a1 n1 a2 n2 R L G := by
  obtain ⟨cs, rfl, hsz⟩ := okWide_struct Try.underlying31 hv
  obtain ⟨fuel, hf⟩ := h
  obtain ⟨y0, y1, y2, y3, n, _, hl, h0, h1, h2, h3⟩ := trod_struct4 Try.underlying31 hf
  rw [cellsSt] at hl
  obtain ⟨l⟩ := cs
  simp only [Value.cells] at hl h0 h1 h2 h3
  match l, hl with
  | [v0, v1, v2, v3, v4, v5, v6, v7, v8, v9], _ =>
    simp only [cellsWS, cellsW, cellsMem, cellsWI, List.drop, List.take] at h0 h1 h2 h3
    obtain ⟨a, k, c, R, e0, hR⟩ := words_in h0
    obtain ⟨n, i, b, t, q, s, e1, _⟩ := open_word6 h1
    obtain ⟨a1, n1, c1, a2, n2, c2, L, G, e2, hM⟩ := mem_in h2
    obtain ⟨tr, e3, _⟩ := DataW.trod_int Try.underlying3 h3
    simp at e0 e1 e2 e3
    obtain ⟨rfl, rfl, rfl, rfl, rfl, rfl⟩ := e1
    obtain ⟨rfl, rfl⟩ := e2
    subst e0 e3
    exact ⟨a, k, c, ⟨n, i, b, t, q, s⟩, a1, n1, c1, a2, n2, c2, tr, R, L, G, rfl, hR, hM⟩
end
end Go.Proofs.Ytneohabkoighcaa

namespace Go.Proofs.Ytneohabkoighcaa
open Go.ChangeShapes Go.WideShapes Go.ChangeAt Go.RowKit Go.Joins Go.Deep
set_option maxRecDepth 100000

theorem ints_in {H : Type} {enc : TypeId × Value → H} {W : World} {sp : Nat → Bool} {held : Bool} {fuel : Nat} {a : Option Addr} {len cap : Nat} {x : DataW H × List MemPlace}
    (hf : DataW.trod enc Try.prog W 0 sp held fuel 33 [.slice a len cap] = some x) : ∃ L, SliceN W.heap.size W a len L := by
  rcases open_slice Try.underlying33 hf with ⟨hcs, _⟩ | ⟨ad, l, c, m, k, D, Pl, hcs, _, hl, hm, hmm, _, hel⟩
  · simp at hcs
    obtain ⟨rfl, rfl, rfl⟩ := hcs
    exact ⟨[], by unfold maxLen; omega, rfl, .inl rfl⟩
  · simp at hcs
    obtain ⟨rfl, rfl, rfl⟩ := hcs
    have hlm : len ≤ m := by rw [hmm]; split <;> omega
    have each : ∀ j, j < len → ∃ y : Int, W.cell? (ad.add j) = some (.int .i64 y) := by
      intro j hj
      obtain ⟨cs, hc, ht⟩ := hel j (by omega)
      obtain ⟨y, rfl, _⟩ := DataW.trod_int Try.underlying3 ht
      rw [cellsWI] at hc
      obtain ⟨_, _, hcell⟩ := World.cells?_some hc
      have := hcell 0 (by omega)
      rw [add_add, Nat.mul_one, Nat.add_zero] at this
      exact ⟨y, this⟩
    obtain ⟨f, hfn⟩ := choose_lt each
    refine ⟨(List.range len).map f, by omega, by simp, ?_⟩
    by_cases h0 : len = 0
    · exact .inl h0
    · right
      obtain ⟨b, off, spot⟩ := ad
      have hc0 := hfn 0 (by omega)
      have hspot : spot = none := by simpa [Addr.add] using World.cell?_spot hc0
      subst hspot
      refine ⟨b, off, rfl, ?_, fun j y hj => ?_⟩
      · have := World.block_lt_of_cell? _ _ hc0
        simpa [Addr.add] using this
      · simp only [List.getElem?_map, Option.map_eq_some_iff] at hj
        obtain ⟨j', hj', rfl⟩ := hj
        obtain ⟨hjl, hje⟩ := List.getElem?_eq_some_iff.1 hj'
        simp at hjl hje
        subst hje
        have := hfn j hjl
        rw [Go.WideShapes.add_plain] at this
        exact this
theorem ints_wf {H : Type} {enc : TypeId × Value → H} {W : World} {sp : Nat → Bool} {held : Bool} {fuel : Nat} {a : Option Addr} {len cap : Nat} {x : DataW H × List MemPlace}
    (hf : DataW.trod enc Try.prog W 0 sp held fuel 33 [.slice a len cap] = some x) : ∃ L, SliceN W.heap.size W a len L ∧ ∀ x ∈ L, (Lit.int .i64 x).wf = true := by
  rcases open_slice Try.underlying33 hf with ⟨hcs, _⟩ | ⟨ad, l, c, m, k, D, Pl, hcs, _, hl, hm, hmm, _, hel⟩
  · simp at hcs
    obtain ⟨rfl, rfl, rfl⟩ := hcs
    exact ⟨[], ⟨by unfold maxLen; omega, rfl, .inl rfl⟩, fun x hx => by cases hx⟩
  · simp at hcs
    obtain ⟨rfl, rfl, rfl⟩ := hcs
    have hlm : len ≤ m := by rw [hmm]; split <;> omega
    have each : ∀ j, j < len → ∃ y : Int, W.cell? (ad.add j) = some (.int .i64 y) ∧ (Lit.int .i64 y).wf = true := by
      intro j hj
      obtain ⟨cs, hc, ht⟩ := hel j (by omega)
      obtain ⟨y, rfl, _, hwy⟩ := DataW.trod_int Try.underlying3 ht
      rw [cellsWI] at hc
      obtain ⟨_, _, hcell⟩ := World.cells?_some hc
      have := hcell 0 (by omega)
      rw [add_add, Nat.mul_one, Nat.add_zero] at this
      exact ⟨y, this, hwy⟩
    obtain ⟨f, hfn⟩ := choose_lt each
    refine ⟨(List.range len).map f, ⟨by omega, by simp, ?_⟩, fun x hx => by
      obtain ⟨j, hj, rfl⟩ := List.mem_map.1 hx
      exact (hfn j (List.mem_range.1 hj)).2⟩
    by_cases h0 : len = 0
    · exact .inl h0
    · right
      obtain ⟨b, off, spot⟩ := ad
      have hc0 := (hfn 0 (by omega)).1
      have hspot : spot = none := by simpa [Addr.add] using World.cell?_spot hc0
      subst hspot
      refine ⟨b, off, rfl, ?_, fun j y hj => ?_⟩
      · have := World.block_lt_of_cell? _ _ hc0
        simpa [Addr.add] using this
      · simp only [List.getElem?_map, Option.map_eq_some_iff] at hj
        obtain ⟨j', hj', rfl⟩ := hj
        obtain ⟨hjl, hje⟩ := List.getElem?_eq_some_iff.1 hj'
        simp at hjl hje
        subst hje
        have := (hfn j hjl).1
        rw [Go.WideShapes.add_plain] at this
        exact this
end Go.Proofs.Ytneohabkoighcaa

namespace Go.Proofs.Ytneohabkoighcaa
open Go.ChangeShapes Go.WideShapes Go.ChangeAt Go.RowKit Go.Joins Go.Deep
set_option maxRecDepth 100000

theorem bulk_one {H : Type} (d : DataW H) : 1 ≤ Rows.uptoBulk d := by
  cases d with
  | lit l => cases l <;> simp [Rows.uptoBulk]
  | nil => simp [Rows.uptoBulk]
  | ptr d => simp [Rows.uptoBulk]
  | slice elems spare => simp [Rows.uptoBulk]
  | agg parts => simp [Rows.uptoBulk]
  | iface t d => simp [Rows.uptoBulk]
  | map entries => simp [Rows.uptoBulk]
  | held h => simp [Rows.uptoBulk]
theorem bulk_part {H : Type} {d : DataW H} {l : List (DataW H)} (h : d ∈ l) : Rows.uptoBulk d ≤ Rows.uptoBulkAll l := by
  induction l with
  | nil => cases h
  | cons x r ih =>
    simp only [Rows.uptoBulkAll]
    cases List.mem_cons.1 h with
    | inl e => subst e; omega
    | inr e => have := ih e; omega
theorem bulk_len {H : Type} (l : List (DataW H)) : l.length ≤ Rows.uptoBulkAll l := by
  induction l with
  | nil => simp [Rows.uptoBulkAll]
  | cons x r ih => have := bulk_one x; simp only [Rows.uptoBulkAll, List.length_cons]; omega
theorem bulk_each {H : Type} {k : Nat} {l : List (DataW H)} (h : ∀ d ∈ l, k ≤ Rows.uptoBulk d) : l.length * k ≤ Rows.uptoBulkAll l := by
  induction l with
  | nil => simp [Rows.uptoBulkAll]
  | cons x r ih =>
    have h1 := h x (.head _)
    have h2 := ih fun d hd => h d (.tail _ hd)
    simp only [Rows.uptoBulkAll, List.length_cons, Nat.add_mul, Nat.one_mul]
    omega

theorem cellsEnL : Try.prog.cellsOf 100 = 40 := by kernel_rfl
theorem cellsEfL : Try.prog.cellsOf 98 = 22 := by kernel_rfl
theorem cellsCoL : Try.prog.cellsOf 35 = 19 := by kernel_rfl
theorem cellsES : Try.prog.cellsOf 32 = 1 := by kernel_rfl
theorem cellsIS : Try.prog.cellsOf 33 = 1 := by kernel_rfl

section
variable {H : Type} {enc : TypeId × Value → H} {W : World} {sp : Nat → Bool} {held : Bool}
theorem trod_five {P : Program} {base : Nat} {t : TypeId} {f0 f1 f2 f3 f4 : Field} {fuel : Nat} {cs : List Value} {x : DataW H × List MemPlace} (ht : P.underlying t = some (.struct #[f0, f1, f2, f3, f4])) (h : DataW.trod enc P W base sp held fuel t cs = some x) :
    ∃ (y0 y1 y2 y3 y4 : DataW H × List MemPlace) (n : Nat), x.1 = .agg [y0.1, y1.1, y2.1, y3.1, y4.1] ∧ cs.length = P.cellsOf t ∧
      DataW.trod enc P W base sp held n f0.type ((cs.drop f0.offset).take (P.cellsOf f0.type)) = some y0 ∧ DataW.trod enc P W base sp held n f1.type ((cs.drop f1.offset).take (P.cellsOf f1.type)) = some y1 ∧
      DataW.trod enc P W base sp held n f2.type ((cs.drop f2.offset).take (P.cellsOf f2.type)) = some y2 ∧ DataW.trod enc P W base sp held n f3.type ((cs.drop f3.offset).take (P.cellsOf f3.type)) = some y3 ∧
      DataW.trod enc P W base sp held n f4.type ((cs.drop f4.offset).take (P.cellsOf f4.type)) = some y4 := by
  obtain ⟨xs, n, _, rfl, hl, hlen, hf⟩ := DataW.trod_struct ht h
  match xs, hlen with
  | [y0, y1, y2, y3, y4], _ => exact ⟨y0, y1, y2, y3, y4, n, by simp, hl, by simpa using hf 0 f0 rfl, by simpa using hf 1 f1 rfl, by simpa using hf 2 f2 rfl, by simpa using hf 3 f3 rfl, by simpa using hf 4 f4 rfl⟩
theorem trod_seven {P : Program} {base : Nat} {t : TypeId} {f0 f1 f2 f3 f4 f5 f6 : Field} {fuel : Nat} {cs : List Value} {x : DataW H × List MemPlace} (ht : P.underlying t = some (.struct #[f0, f1, f2, f3, f4, f5, f6])) (h : DataW.trod enc P W base sp held fuel t cs = some x) :
    ∃ (y0 y1 y2 y3 y4 y5 y6 : DataW H × List MemPlace) (n : Nat), cs.length = P.cellsOf t ∧
      DataW.trod enc P W base sp held n f0.type ((cs.drop f0.offset).take (P.cellsOf f0.type)) = some y0 ∧ DataW.trod enc P W base sp held n f1.type ((cs.drop f1.offset).take (P.cellsOf f1.type)) = some y1 ∧
      DataW.trod enc P W base sp held n f2.type ((cs.drop f2.offset).take (P.cellsOf f2.type)) = some y2 ∧ DataW.trod enc P W base sp held n f3.type ((cs.drop f3.offset).take (P.cellsOf f3.type)) = some y3 ∧
      DataW.trod enc P W base sp held n f4.type ((cs.drop f4.offset).take (P.cellsOf f4.type)) = some y4 ∧ DataW.trod enc P W base sp held n f5.type ((cs.drop f5.offset).take (P.cellsOf f5.type)) = some y5 ∧
      DataW.trod enc P W base sp held n f6.type ((cs.drop f6.offset).take (P.cellsOf f6.type)) = some y6 := by
  obtain ⟨xs, n, _, rfl, hl, hlen, hf⟩ := DataW.trod_struct ht h
  match xs, hlen with
  | [y0, y1, y2, y3, y4, y5, y6], _ => exact ⟨y0, y1, y2, y3, y4, y5, y6, n, hl, by simpa using hf 0 f0 rfl, by simpa using hf 1 f1 rfl, by simpa using hf 2 f2 rfl, by simpa using hf 3 f3 rfl, by simpa using hf 4 f4 rfl, by simpa using hf 5 f5 rfl, by simpa using hf 6 f6 rfl⟩

/-- An effect's cells, opened. -/
theorem eff_in {base fuel : Nat} {cs : List Value} {x : DataW H × List MemPlace} (h : DataW.trod enc Try.prog W base sp held fuel 98 cs = some x) : ∃ e : Eff, cs = effl e := by
  obtain ⟨y0, y1, y2, y3, y4, y5, y6, n, hl, h0, h1, h2, h3, h4, h5, h6⟩ := trod_seven Try.underlying98 h
  rw [cellsEfL] at hl
  match cs, hl with
  | [v0, v1, v2, v3, v4, v5, v6, v7, v8, v9, v10, v11, v12, v13, v14, v15, v16, v17, v18, v19, v20, v21], _ =>
    simp only [cellsW, cellsWI, List.drop, List.take] at h0 h1 h2 h3 h4 h5 h6
    obtain ⟨t, e0, _⟩ := DataW.trod_int Try.underlying3 h0
    obtain ⟨r, e1, _⟩ := DataW.trod_int Try.underlying3 h1
    obtain ⟨n2, i2, b2, t2, p2, s2, e2, _⟩ := open_word6 h2
    obtain ⟨n3, i3, b3, t3, p3, s3, e3, _⟩ := open_word6 h3
    obtain ⟨a4, e4, _⟩ := DataW.trod_int Try.underlying3 h4
    obtain ⟨n5, i5, b5, t5, p5, s5, e5, _⟩ := open_word6 h5
    obtain ⟨d6, e6, _⟩ := DataW.trod_int Try.underlying3 h6
    simp at e0 e1 e2 e3 e4 e5 e6
    obtain ⟨rfl, rfl, rfl, rfl, rfl, rfl⟩ := e2
    obtain ⟨rfl, rfl, rfl, rfl, rfl, rfl⟩ := e3
    obtain ⟨rfl, rfl, rfl, rfl, rfl, rfl⟩ := e5
    subst e0 e1 e4 e6
    exact ⟨⟨t, r, ⟨n2, i2, b2, t2, p2, s2⟩, ⟨n3, i3, b3, t3, p3, s3⟩, a4, ⟨n5, i5, b5, t5, p5, s5⟩, d6⟩, rfl⟩
/-- An entry's cells, opened. -/
theorem ent_in {base fuel : Nat} {cs : List Value} {x : DataW H × List MemPlace} (h : DataW.trod enc Try.prog W base sp held fuel 100 cs = some x) : (∃ y : En, cs = enl y) ∧ 6 ≤ Rows.uptoBulk x.1 := by
  obtain ⟨y0, y1, y2, y3, y4, n, hx, hl, h0, h1, h2, h3, h4⟩ := trod_five Try.underlying100 h
  refine ⟨?_, ?_⟩
  · rw [cellsEnL] at hl
    match cs, hl with
    | v0 :: v1 :: v2 :: v3 :: v4 :: v5 :: v6 :: v7 :: v8 :: v9 :: v10 :: v11 :: v12 :: v13 :: v14 :: v15 :: v16 :: v17 :: v18 :: v19 :: v20 :: v21 :: v22 :: v23 :: v24 :: v25 :: v26 :: v27 :: v28 :: v29 :: v30 :: v31 :: v32 :: v33 :: v34 :: v35 :: v36 :: v37 :: v38 :: v39 :: [], _ =>
      simp only [cellsW, cellsIns, cellsWB, cellsEfL, List.drop, List.take] at h0 h1 h2 h3 h4
      obtain ⟨n0, i0, b0, t0, p0, s0, e0, _⟩ := open_word6 h0
      obtain ⟨o1, r1, a1, b1, n1, e1⟩ := open_ins5 h1
      obtain ⟨d2, e2, _⟩ := DataW.trod_bool Try.underlying4 h2
      obtain ⟨e, e3⟩ := eff_in h3
      obtain ⟨n4, i4, b4, t4, p4, s4, e4, _⟩ := open_word6 h4
      simp at e0 e1 e2 e3 e4
      obtain ⟨rfl, rfl, rfl, rfl, rfl, rfl⟩ := e0
      obtain ⟨rfl, rfl, rfl, rfl, rfl⟩ := e1
      obtain ⟨rfl, rfl, rfl, rfl, rfl, rfl, rfl, rfl, rfl, rfl, rfl, rfl, rfl, rfl, rfl, rfl, rfl, rfl, rfl, rfl, rfl, rfl⟩ := e3
      obtain ⟨rfl, rfl, rfl, rfl, rfl, rfl⟩ := e4
      subst e2
      exact ⟨⟨⟨n0, i0, b0, t0, p0, s0⟩, ⟨o1, r1, a1, b1, n1⟩, d2, e, ⟨n4, i4, b4, t4, p4, s4⟩⟩, rfl⟩
  · rw [hx]
    have h1 := bulk_len [y0.1, y1.1, y2.1, y3.1, y4.1]
    simp only [Rows.uptoBulk, List.length_cons, List.length_nil] at h1 ⊢
    omega
/-- A slice of entries that came in. -/
theorem ents_in {fuel : Nat} {cs : List Value} {x : DataW H × List MemPlace}
    (hf : DataW.trod enc Try.prog W 0 sp held fuel 32 cs = some x) : ∃ a len cap L, cs = [.slice a len cap] ∧ SliceV 40 enl W.heap.size W a len L ∧ len * 6 ≤ Rows.uptoBulk x.1 := by
  rcases open_slice Try.underlying32 hf with ⟨hcs, _⟩ | ⟨ad, len, cap, m, k, D, Pl, hcs, _, hl, hm, hmm, hx, hel⟩
  · exact ⟨none, 0, 0, [], hcs, SliceV.nil _ _, by omega⟩
  · have hlm : len ≤ m := by rw [hmm]; split <;> omega
    have each : ∀ j, j < len → ∃ y : En, ∀ i v, (enl y)[i]? = some v → W.cell? (ad.add (j * 40 + i)) = some v := by
      intro j hj
      obtain ⟨cs, hc, ht⟩ := hel j (by omega)
      obtain ⟨⟨y, rfl⟩, _⟩ := ent_in ht
      rw [cellsEnL] at hc
      obtain ⟨_, _, hcell⟩ := World.cells?_some hc
      refine ⟨y, fun i' v hv => ?_⟩
      have h6 : i' < 40 := (List.getElem?_eq_some_iff.1 hv).1
      have := hcell i' h6
      rw [add_add] at this
      rw [this]
      exact hv
    haveI : Inhabited En := ⟨⟨⟨0, false, 0, 0, 0, 0⟩, ⟨0, 0, 0, 0, 0⟩, false, ⟨0, 0, ⟨0, false, 0, 0, 0, 0⟩, ⟨0, false, 0, 0, 0, 0⟩, 0, ⟨0, false, 0, 0, 0, 0⟩, 0⟩, ⟨0, false, 0, 0, 0, 0⟩⟩⟩
    obtain ⟨f, hfn⟩ := choose_lt each
    refine ⟨some ad, len, cap, (List.range len).map f, hcs, ⟨by omega, by simp, ?_⟩, ?_⟩
    · by_cases h0 : len = 0
      · exact .inl h0
      · right
        obtain ⟨b, off, spot⟩ := ad
        have hc0 := hfn 0 (by omega) 0 _ rfl
        have hspot : spot = none := by simpa [Addr.add] using World.cell?_spot hc0
        subst hspot
        refine ⟨b, off, rfl, ?_, fun j y hj => ?_⟩
        · have := World.block_lt_of_cell? _ _ hc0
          simpa [Addr.add] using this
        · simp only [List.getElem?_map, Option.map_eq_some_iff] at hj
          obtain ⟨j', hj', rfl⟩ := hj
          obtain ⟨hjl, hje⟩ := List.getElem?_eq_some_iff.1 hj'
          simp at hjl hje
          subst hje
          intro i v hv
          have := hfn j hjl i v hv
          rw [Go.WideShapes.add_plain] at this
          rw [Nat.add_assoc]
          exact this
    · rw [hx]
      have h1 := bulk_each (k := 6) (l := (List.range len).map D) fun d hd => by
        obtain ⟨j, hj, rfl⟩ := List.mem_map.1 hd
        obtain ⟨cs, hc, ht⟩ := hel j (by have := List.mem_range.1 hj; omega)
        exact (ent_in ht).2
      rw [List.length_map, List.length_range] at h1
      simp only [Rows.uptoBulk]
      omega
/-- A slice of ints that came in: its one cell, opened. -/
theorem intS_in {fuel : Nat} {cs : List Value} {x : DataW H × List MemPlace}
    (hf : DataW.trod enc Try.prog W 0 sp held fuel 33 cs = some x) : ∃ a len cap L, cs = [.slice a len cap] ∧ SliceN W.heap.size W a len L := by
  rcases open_slice Try.underlying33 hf with ⟨hcs, _⟩ | ⟨ad, len, cap, m, k, D, Pl, hcs, _⟩
  · subst hcs
    obtain ⟨L, hL⟩ := ints_in hf
    exact ⟨_, _, _, L, rfl, hL⟩
  · subst hcs
    obtain ⟨L, hL⟩ := ints_in hf
    exact ⟨_, _, _, L, rfl, hL⟩
/-- A state's ten cells, opened. -/
theorem state_in {fuel : Nat} {cs : List Value} {x : DataW H × List MemPlace} (hf : DataW.trod enc Try.prog W 0 sp held fuel 31 cs = some x) :
    ∃ a n c x a1 n1 c1 a2 n2 c2 t R L G, cs = stl a n c x a1 n1 c1 a2 n2 c2 t ∧ StS W a n a1 n1 a2 n2 R L G := by
  obtain ⟨y0, y1, y2, y3, n, _, hl, h0, h1, h2, h3⟩ := trod_struct4 Try.underlying31 hf
  rw [cellsSt] at hl
  match cs, hl with
  | [v0, v1, v2, v3, v4, v5, v6, v7, v8, v9], _ =>
    simp only [cellsWS, cellsW, cellsMem, cellsWI, List.drop, List.take] at h0 h1 h2 h3
    obtain ⟨a, k, c, R, e0, hR⟩ := words_in h0
    obtain ⟨n, i, b, t, q, s, e1, _⟩ := open_word6 h1
    obtain ⟨a1, n1, c1, a2, n2, c2, L, G, e2, hM⟩ := mem_in h2
    obtain ⟨tr, e3, _⟩ := DataW.trod_int Try.underlying3 h3
    simp at e0 e1 e2 e3
    obtain ⟨rfl, rfl, rfl, rfl, rfl, rfl⟩ := e1
    obtain ⟨rfl, rfl⟩ := e2
    subst e0 e3
    exact ⟨a, k, c, ⟨n, i, b, t, q, s⟩, a1, n1, c1, a2, n2, c2, tr, R, L, G, rfl, hR, hM⟩
/-- A core by value, opened. -/
theorem open_core {r : Reach} {b0 : Nat} {v : Value} {d : DataW H} {p : List MemPlace} (hv : Value.okWide Try.prog W r b0 35 v) (h : DataW.Trod enc Try.prog W 0 sp held 35 v d p) :
    ∃ cv ca cr, v = .agg (col cv ca).toArray ∧ CoS W cv ca cr ∧ cv.en * 6 ≤ Rows.uptoBulk d := by
  obtain ⟨cs, rfl, hsz⟩ := okWide_struct Try.underlying35 hv
  obtain ⟨fuel, hf⟩ := h
  obtain ⟨y0, y1, y2, y3, y4, n, hx, hl, h0, h1, h2, h3, h4⟩ := trod_five Try.underlying35 hf
  rw [cellsCoL] at hl
  obtain ⟨l⟩ := cs
  simp only [Value.cells] at hl h0 h1 h2 h3 h4
  match l, hl with
  | [v0, v1, v2, v3, v4, v5, v6, v7, v8, v9, v10, v11, v12, v13, v14, v15, v16, v17, v18], _ =>
    simp only [cellsSt, cellsES, cellsW, cellsWB, cellsIS, List.drop, List.take] at h0 h1 h2 h3 h4
    obtain ⟨ra, rn, rc, px, wa, wn, wc, ga, gn, gc, t, R, L, G, e0, hS⟩ := state_in h0
    obtain ⟨ea, en, ec, E, e1, hE, hb⟩ := ents_in h1
    obtain ⟨n2, i2, b2, t2, p2, s2, e2, _⟩ := open_word6 h2
    obtain ⟨st, e3, _⟩ := DataW.trod_bool Try.underlying4 h3
    obtain ⟨ja, jn, jc, J, e4, hJ⟩ := intS_in h4
    simp at e0 e1 e2 e3 e4
    obtain ⟨rfl, rfl, rfl, rfl, rfl, rfl, rfl, rfl, rfl, rfl⟩ := e0
    obtain ⟨rfl, rfl, rfl, rfl, rfl, rfl⟩ := e2
    subst e1 e3 e4
    refine ⟨⟨rn, px, wn, gn, t, en, ⟨n2, i2, b2, t2, p2, s2⟩, st, jn⟩, ⟨ra, rc, wa, wc, ga, gc, ea, ec, ja, jc⟩, ⟨R, L, G, E, J⟩, rfl, ⟨hS, hE, hJ⟩, ?_⟩
    have hx' : d = .agg [y0.1, y1.1, y2.1, y3.1, y4.1] := hx
    rw [hx']
    have h5 := bulk_part (d := y1.1) (l := [y0.1, y1.1, y2.1, y3.1, y4.1]) (by simp)
    simp only [Rows.uptoBulk]
    show en * 6 ≤ _
    omega
end
end Go.Proofs.Ytneohabkoighcaa
