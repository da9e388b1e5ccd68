/- A word of the laws as data: six cells of it are opened and shut. No condition. · A place (Ins) of the laws as data: its five cells are opened. No condition. · A memory of the laws as data: its two slices are opened. No condition. · A state of the laws as data: its three slices, its word and its trap are opened. No condition. · A slice of ints that came in, opened. No condition. · A core of the laws as data: its slices, words, numbers are opened; what is read of it is no less than six values an entry. No condition. -/
import Derived.Test.YtneohabkoighcaaGreatRows
import Derived.WalkKit
import Derived.ProofKit
import Derived.OpenShut
import Derived.Lib.SmallJoins
import Derived.Deep.Slices
import Derived.Deep.Strs
import Derived.Test.YtneohabkoighcaaGreatMem
import Derived.ChangeOld
import Derived.ChangeSame
import Derived.Below
import Derived.Test.YtneohabkoighcaaGreatQA
import Derived.Test.YtneohabkoighcaaGreatQC
import Derived.Test.YtneohabkoighcaaGreatQE
namespace Go.Proofs.YtneohabkoighcaaGreat
open Go.ChangeShapes Go.WideShapes Go.ChangeAt Go.RowKit Go.Joins Go.Deep
set_option maxRecDepth 100000

theorem cellsW : Tryz.prog.cellsOf 57 = 6 := by kernel_rfl
theorem cellsWK : Tryz.prog.cellsOf 55 = 4 := by kernel_rfl
theorem cellsWI : Tryz.prog.cellsOf 3 = 1 := by kernel_rfl
theorem cellsWB : Tryz.prog.cellsOf 4 = 1 := by kernel_rfl

section
variable {H : Type} {enc : TypeId × Value → H} {W : World} {base : Nat} {sp : Nat → Bool} {held : Bool}

/-- A key's four cells, opened. -/
theorem open_key4 {fuel : Nat} {cs : List Value} {x : DataW H × List MemPlace} (h : DataW.trod enc Tryz.prog W base sp held fuel 55 cs = some x) :
    ∃ b t p s : Int, cs = [.int .i64 b, .int .i64 t, .int .i64 p, .int .i64 s] ∧ x = (.agg [.lit (.int .i64 b), .lit (.int .i64 t), .lit (.int .i64 p), .lit (.int .i64 s)], []) ∧
      (Lit.int .i64 b).wf = true ∧ (Lit.int .i64 t).wf = true ∧ (Lit.int .i64 p).wf = true ∧ (Lit.int .i64 s).wf = true := by
  obtain ⟨y0, y1, y2, y3, n, rfl, hl, h0, h1, h2, h3⟩ := trod_struct4 Tryz.underlying55 h
  rw [cellsWK] at hl
  match cs, hl with
  | [v0, v1, v2, v3], _ =>
    simp only [cellsWI, List.drop, List.take] at h0 h1 h2 h3
    obtain ⟨b, e0, rfl, wb⟩ := DataW.trod_int Tryz.underlying3 h0
    obtain ⟨t, e1, rfl, wt⟩ := DataW.trod_int Tryz.underlying3 h1
    obtain ⟨p, e2, rfl, wp⟩ := DataW.trod_int Tryz.underlying3 h2
    obtain ⟨s, e3, rfl, ws⟩ := DataW.trod_int Tryz.underlying3 h3
    simp at e0 e1 e2 e3
    subst e0 e1 e2 e3
    exact ⟨b, t, p, s, rfl, rfl, wb, wt, wp, ws⟩

theorem shut_key4 {b t p s : Int} (wb : (Lit.int .i64 b).wf = true) (wt : (Lit.int .i64 t).wf = true) (wp : (Lit.int .i64 p).wf = true) (ws : (Lit.int .i64 s).wf = true) :
    DataW.trod enc Tryz.prog W base sp held 2 55 [.int .i64 b, .int .i64 t, .int .i64 p, .int .i64 s] = some (.agg [.lit (.int .i64 b), .lit (.int .i64 t), .lit (.int .i64 p), .lit (.int .i64 s)], []) :=
  trod_struct4_mk (n := 1) (y0 := (.lit (.int .i64 b), [])) (y1 := (.lit (.int .i64 t), [])) (y2 := (.lit (.int .i64 p), [])) (y3 := (.lit (.int .i64 s), [])) Tryz.underlying55 (by rw [cellsWK]; rfl)
    (by simp [cellsWI, DataW.trod, Tryz.underlying3, wb]) (by simp [cellsWI, DataW.trod, Tryz.underlying3, wt]) (by simp [cellsWI, DataW.trod, Tryz.underlying3, wp]) (by simp [cellsWI, DataW.trod, Tryz.underlying3, ws])

/-- A word's six cells, opened. -/
theorem open_word6 {fuel : Nat} {cs : List Value} {x : DataW H × List MemPlace} (h : DataW.trod enc Tryz.prog W base sp held fuel 57 cs = some x) :
    ∃ (n : Int) (i : Bool) (b t p s : Int), cs = [.int .i64 n, .bool i, .int .i64 b, .int .i64 t, .int .i64 p, .int .i64 s] ∧
      x = (.agg [.lit (.int .i64 n), .lit (.bool i), .agg [.lit (.int .i64 b), .lit (.int .i64 t), .lit (.int .i64 p), .lit (.int .i64 s)]], []) ∧
      (Lit.int .i64 n).wf = true ∧ (Lit.int .i64 b).wf = true ∧ (Lit.int .i64 t).wf = true ∧ (Lit.int .i64 p).wf = true ∧ (Lit.int .i64 s).wf = true := by
  obtain ⟨y0, y1, y2, n, rfl, hl, h0, h1, h2⟩ := trod_struct3 Tryz.underlying57 h
  rw [cellsW] at hl
  match cs, hl with
  | [v0, v1, v2, v3, v4, v5], _ =>
    simp only [cellsWI, cellsWB, cellsWK, List.drop, List.take] at h0 h1 h2
    obtain ⟨n, e0, rfl, wn⟩ := DataW.trod_int Tryz.underlying3 h0
    obtain ⟨i, e1, rfl⟩ := DataW.trod_bool Tryz.underlying4 h1
    obtain ⟨b, t, p, s, e2, rfl, wb, wt, wp, ws⟩ := open_key4 h2
    simp at e0 e1 e2
    obtain ⟨rfl, rfl, rfl, rfl⟩ := e2
    subst e0 e1
    exact ⟨n, i, b, t, p, s, rfl, rfl, wn, wb, wt, wp, ws⟩

theorem shut_word6 {n : Int} {i : Bool} {b t p s : Int} (wn : (Lit.int .i64 n).wf = true) (wb : (Lit.int .i64 b).wf = true) (wt : (Lit.int .i64 t).wf = true) (wp : (Lit.int .i64 p).wf = true) (ws : (Lit.int .i64 s).wf = true) :
    DataW.trod enc Tryz.prog W base sp held 3 57 [.int .i64 n, .bool i, .int .i64 b, .int .i64 t, .int .i64 p, .int .i64 s] =
      some (.agg [.lit (.int .i64 n), .lit (.bool i), .agg [.lit (.int .i64 b), .lit (.int .i64 t), .lit (.int .i64 p), .lit (.int .i64 s)]], []) :=
  trod_struct3_mk (n := 2) (y0 := (.lit (.int .i64 n), [])) (y1 := (.lit (.bool i), [])) (y2 := (.agg [.lit (.int .i64 b), .lit (.int .i64 t), .lit (.int .i64 p), .lit (.int .i64 s)], [])) Tryz.underlying57 (by rw [cellsW]; rfl)
    (by simp [cellsWI, DataW.trod, Tryz.underlying3, wn]) (by simp [cellsWB, DataW.trod, Tryz.underlying4]) (by simpa [cellsWK] using shut_key4 wb wt wp ws)

/-- A word by value, opened. -/
theorem open_word {r : Reach} {b0 : Nat} {v : Value} {d : DataW H} {p : List MemPlace} (hv : Value.okWide Tryz.prog W r b0 57 v) (h : DataW.Trod enc Tryz.prog W base sp held 57 v d p) :
    ∃ (n : Int) (i : Bool) (b t q s : Int), v = .agg #[.int .i64 n, .bool i, .int .i64 b, .int .i64 t, .int .i64 q, .int .i64 s] ∧
      d = .agg [.lit (.int .i64 n), .lit (.bool i), .agg [.lit (.int .i64 b), .lit (.int .i64 t), .lit (.int .i64 q), .lit (.int .i64 s)]] ∧ p = [] ∧
      (Lit.int .i64 n).wf = true ∧ (Lit.int .i64 b).wf = true ∧ (Lit.int .i64 t).wf = true ∧ (Lit.int .i64 q).wf = true ∧ (Lit.int .i64 s).wf = true := by
  obtain ⟨cs, rfl, hsz⟩ := okWide_struct Tryz.underlying57 hv
  obtain ⟨fuel, hf⟩ := h
  obtain ⟨n, i, b, t, q, s, hc, hx, wn, wb, wt, wq, ws⟩ := open_word6 hf
  simp only [Prod.mk.injEq] at hx
  obtain ⟨l⟩ := cs
  simp [Value.cells] at hc
  subst hc
  exact ⟨n, i, b, t, q, s, rfl, hx.1, hx.2, wn, wb, wt, wq, ws⟩

theorem shut_word {n : Int} {i : Bool} {b t p s : Int} (wn : (Lit.int .i64 n).wf = true) (wb : (Lit.int .i64 b).wf = true) (wt : (Lit.int .i64 t).wf = true) (wp : (Lit.int .i64 p).wf = true) (ws : (Lit.int .i64 s).wf = true) :
    DataW.Trod enc Tryz.prog W base sp held 57 (.agg #[.int .i64 n, .bool i, .int .i64 b, .int .i64 t, .int .i64 p, .int .i64 s])
      (.agg [.lit (.int .i64 n), .lit (.bool i), .agg [.lit (.int .i64 b), .lit (.int .i64 t), .lit (.int .i64 p), .lit (.int .i64 s)]]) [] :=
  ⟨3, by simpa [Value.cells] using shut_word6 wn wb wt wp ws⟩
end
end Go.Proofs.YtneohabkoighcaaGreat

namespace Go.Proofs.YtneohabkoighcaaGreat
open Go.ChangeShapes Go.WideShapes Go.ChangeAt Go.RowKit Go.Joins Go.Deep
set_option maxRecDepth 100000

theorem cellsInt : Tryz.prog.cellsOf 3 = 1 := by kernel_rfl

section
variable {H : Type} {enc : TypeId × Value → H} {W : World} {base : Nat} {sp : Nat → Bool} {held : Bool}

theorem trod_struct5 {P : Program} {t : TypeId} {f0 f1 f2 f3 f4 : Field} {fuel : Nat} {cs : List Value} {x : DataW H × List MemPlace} (ht : P.underlying t = some (.struct #[f0, f1, f2, f3, f4])) (h : DataW.trod enc P W base sp held fuel t cs = some x) :
    ∃ (y0 y1 y2 y3 y4 : DataW H × List MemPlace) (n : Nat), cs.length = P.cellsOf t ∧
      DataW.trod enc P W base sp held n f0.type ((cs.drop f0.offset).take (P.cellsOf f0.type)) = some y0 ∧ DataW.trod enc P W base sp held n f1.type ((cs.drop f1.offset).take (P.cellsOf f1.type)) = some y1 ∧
      DataW.trod enc P W base sp held n f2.type ((cs.drop f2.offset).take (P.cellsOf f2.type)) = some y2 ∧ DataW.trod enc P W base sp held n f3.type ((cs.drop f3.offset).take (P.cellsOf f3.type)) = some y3 ∧
      DataW.trod enc P W base sp held n f4.type ((cs.drop f4.offset).take (P.cellsOf f4.type)) = some y4 := by
  obtain ⟨xs, n, _, rfl, hl, hlen, hf⟩ := DataW.trod_struct ht h
  match xs, hlen with
  | [y0, y1, y2, y3, y4], _ => exact ⟨y0, y1, y2, y3, y4, n, hl, by simpa using hf 0 f0 rfl, by simpa using hf 1 f1 rfl, by simpa using hf 2 f2 rfl, by simpa using hf 3 f3 rfl, by simpa using hf 4 f4 rfl⟩

end
end Go.Proofs.YtneohabkoighcaaGreat

namespace Go.Proofs.YtneohabkoighcaaGreat
open Go.ChangeShapes Go.WideShapes Go.ChangeAt Go.RowKit Go.Joins Go.Deep
set_option maxRecDepth 100000

theorem cellsMem : Tryz.prog.cellsOf 59 = 2 := by kernel_rfl
theorem cellsWS : Tryz.prog.cellsOf 54 = 1 := by kernel_rfl
theorem cellsBS : Tryz.prog.cellsOf 29 = 1 := by kernel_rfl

section
variable {H : Type} {enc : TypeId × Value → H} {W : World} {sp : Nat → Bool} {held : Bool}
/-- A slice of words that came in: its one cell, opened. -/
theorem words_in {fuel : Nat} {cs : List Value} {x : DataW H × List MemPlace}
    (hf : DataW.trod enc Tryz.prog W 0 sp held fuel 54 cs = some x) : ∃ a len cap L, cs = [.slice a len cap] ∧ SliceW W.heap.size W a len L := by
  rcases open_slice Tryz.underlying54 hf with ⟨hcs, _⟩ | ⟨ad, len, cap, m, k, D, Pl, hcs, _, hl, hm, hmm, _, hel⟩
  · exact ⟨none, 0, 0, [], hcs, by unfold maxLen; omega, rfl, .inl rfl⟩
  · have hlm : len ≤ m := by rw [hmm]; split <;> omega
    have each : ∀ j, j < len → ∃ y : Wd, ∀ i v, y.vs[i]? = some v → W.cell? (ad.add (j * 6 + i)) = some v := by
      intro j hj
      obtain ⟨cs, hc, ht⟩ := hel j (by omega)
      obtain ⟨n, i, b, t, p, s, rfl, _, _, _, _, _, _⟩ := open_word6 ht
      rw [cellsW] at hc
      obtain ⟨_, _, hcell⟩ := World.cells?_some hc
      refine ⟨⟨n, i, b, t, p, s⟩, fun i' v hv => ?_⟩
      have h6 : i' < 6 := (List.getElem?_eq_some_iff.1 hv).1
      have := hcell i' h6
      rw [add_add] at this
      rw [this]
      exact hv
    haveI : Inhabited Wd := ⟨⟨0, false, 0, 0, 0, 0⟩⟩
    obtain ⟨f, hfn⟩ := choose_lt each
    refine ⟨some ad, len, cap, (List.range len).map f, hcs, by omega, by simp, ?_⟩
    by_cases h0 : len = 0
    · exact .inl h0
    · right
      obtain ⟨b, off, spot⟩ := ad
      have hc0 := hfn 0 (by omega) 0 _ rfl
      have hspot : spot = none := by simpa [Addr.add] using World.cell?_spot hc0
      subst hspot
      refine ⟨b, off, rfl, ?_, fun j y hj => ?_⟩
      · have := World.block_lt_of_cell? _ _ hc0
        simpa [Addr.add] using this
      · simp only [List.getElem?_map, Option.map_eq_some_iff] at hj
        obtain ⟨j', hj', rfl⟩ := hj
        obtain ⟨hjl, hje⟩ := List.getElem?_eq_some_iff.1 hj'
        simp at hjl hje
        subst hje
        refine WordAt.of_vs fun i v hv => ?_
        have := hfn j hjl i v hv
        rw [Go.WideShapes.add_plain] at this
        rw [Nat.add_assoc]
        exact this
/-- A slice of bools that came in: its one cell, opened. -/
theorem bools_in {fuel : Nat} {cs : List Value} {x : DataW H × List MemPlace}
    (hf : DataW.trod enc Tryz.prog W 0 sp held fuel 29 cs = some x) : ∃ a len cap L, cs = [.slice a len cap] ∧ SliceB W.heap.size W a len L := by
  rcases open_slice Tryz.underlying29 hf with ⟨hcs, _⟩ | ⟨ad, len, cap, m, k, D, Pl, hcs, _, hl, hm, hmm, _, hel⟩
  · exact ⟨none, 0, 0, [], hcs, by unfold maxLen; omega, rfl, .inl rfl⟩
  · have hlm : len ≤ m := by rw [hmm]; split <;> omega
    have each : ∀ j, j < len → ∃ y : Bool, W.cell? (ad.add j) = some (.bool y) := by
      intro j hj
      obtain ⟨cs, hc, ht⟩ := hel j (by omega)
      obtain ⟨y, rfl, _⟩ := DataW.trod_bool Tryz.underlying4 ht
      rw [cellsWB] at hc
      obtain ⟨_, _, hcell⟩ := World.cells?_some hc
      have := hcell 0 (by omega)
      rw [add_add, Nat.mul_one, Nat.add_zero] at this
      exact ⟨y, this⟩
    obtain ⟨f, hfn⟩ := choose_lt each
    refine ⟨some ad, len, cap, (List.range len).map f, hcs, by omega, by simp, ?_⟩
    by_cases h0 : len = 0
    · exact .inl h0
    · right
      obtain ⟨b, off, spot⟩ := ad
      have hc0 := hfn 0 (by omega)
      have hspot : spot = none := by simpa [Addr.add] using World.cell?_spot hc0
      subst hspot
      refine ⟨b, off, rfl, ?_, fun j y hj => ?_⟩
      · have := World.block_lt_of_cell? _ _ hc0
        simpa [Addr.add] using this
      · simp only [List.getElem?_map, Option.map_eq_some_iff] at hj
        obtain ⟨j', hj', rfl⟩ := hj
        obtain ⟨hjl, hje⟩ := List.getElem?_eq_some_iff.1 hj'
        simp at hjl hje
        subst hje
        have := hfn j hjl
        rw [Go.WideShapes.add_plain] at this
        exact this
/-- A memory by value, opened. -/
theorem open_mem {r : Reach} {b0 : Nat} {v : Value} {d : DataW H} {p : List MemPlace} (hv : Value.okWide Tryz.prog W r b0 59 v) (h : DataW.Trod enc Tryz.prog W 0 sp held 59 v d p) :
    ∃ a n c a' n' c' L G, v = .agg #[.slice a n c, .slice a' n' c'] ∧ MemS W a n a' n' L G := by
  obtain ⟨cs, rfl, hsz⟩ := okWide_struct Tryz.underlying59 hv
  obtain ⟨fuel, hf⟩ := h
  obtain ⟨y0, y1, n, _, hl, h0, h1⟩ := trod_struct2 Tryz.underlying59 hf
  rw [cellsMem] at hl
  obtain ⟨l⟩ := cs
  simp only [Value.cells] at hl h0 h1
  match l, hl with
  | [v0, v1], _ =>
    simp only [cellsWS, cellsBS, List.drop, List.take] at h0 h1
    obtain ⟨a, k, c, L, e0, hL⟩ := words_in h0
    obtain ⟨a', k', c', G, e1, hG⟩ := bools_in h1
    simp at e0 e1
    subst e0 e1
    exact ⟨a, k, c, a', k', c', L, G, rfl, hL, hG⟩
end
end Go.Proofs.YtneohabkoighcaaGreat

namespace Go.Proofs.YtneohabkoighcaaGreat
open Go.ChangeShapes Go.WideShapes Go.ChangeAt Go.RowKit Go.Joins Go.Deep
set_option maxRecDepth 100000

theorem cellsSt : Tryz.prog.cellsOf 61 = 10 := by kernel_rfl
section
variable {H : Type} {enc : TypeId × Value → H} {W : World} {sp : Nat → Bool} {held : Bool}
/-- A memory's two cells, opened. -/
theorem mem_in {fuel : Nat} {cs : List Value} {x : DataW H × List MemPlace}
    (hf : DataW.trod enc Tryz.prog W 0 sp held fuel 59 cs = some x) : ∃ a n c a' n' c' L G, cs = [.slice a n c, .slice a' n' c'] ∧ MemS W a n a' n' L G := by
  obtain ⟨y0, y1, n, _, hl, h0, h1⟩ := trod_struct2 Tryz.underlying59 hf
  rw [cellsMem] at hl
  match cs, hl with
  | [v0, v1], _ =>
    simp only [cellsWS, cellsBS, List.drop, List.take] at h0 h1
    obtain ⟨a, k, c, L, e0, hL⟩ := words_in h0
    obtain ⟨a', k', c', G, e1, hG⟩ := bools_in h1
    simp at e0 e1
    subst e0 e1
    exact ⟨a, k, c, a', k', c', L, G, rfl, hL, hG⟩
/-- A state by value, opened. -/
theorem open_state {r : Reach} {b0 : Nat} {v : Value} {d : DataW H} {p : List MemPlace} (hv : Value.okWide Tryz.prog W r b0 61 v) (h : DataW.Trod enc Tryz.prog W 0 sp held 61 v d p) :
    ∃ a n c x a1 n1 c1 a2 n2 c2 t R L G, v = .agg (stl a n c x a1 n1 c1 a2 n2 c2 t).toArray ∧ StS W a n a1 n1 a2 n2 R L G := by
  obtain ⟨cs, rfl, hsz⟩ := okWide_struct Tryz.underlying61 hv
  obtain ⟨fuel, hf⟩ := h
  obtain ⟨y0, y1, y2, y3, n, _, hl, h0, h1, h2, h3⟩ := trod_struct4 Tryz.underlying61 hf
  rw [cellsSt] at hl
  obtain ⟨l⟩ := cs
  simp only [Value.cells] at hl h0 h1 h2 h3
  match l, hl with
  | [v0, v1, v2, v3, v4, v5, v6, v7, v8, v9], _ =>
    simp only [cellsWS, cellsW, cellsMem, cellsWI, List.drop, List.take] at h0 h1 h2 h3
    obtain ⟨a, k, c, R, e0, hR⟩ := words_in h0
    obtain ⟨n, i, b, t, q, s, e1, _⟩ := open_word6 h1
    obtain ⟨a1, n1, c1, a2, n2, c2, L, G, e2, hM⟩ := mem_in h2
    obtain ⟨tr, e3, _⟩ := DataW.trod_int Tryz.underlying3 h3
    simp at e0 e1 e2 e3
    obtain ⟨rfl, rfl, rfl, rfl, rfl, rfl⟩ := e1
    obtain ⟨rfl, rfl⟩ := e2
    subst e0 e3
    exact ⟨a, k, c, ⟨n, i, b, t, q, s⟩, a1, n1, c1, a2, n2, c2, tr, R, L, G, rfl, hR, hM⟩
end
end Go.Proofs.YtneohabkoighcaaGreat

namespace Go.Proofs.YtneohabkoighcaaGreat
open Go.ChangeShapes Go.WideShapes Go.ChangeAt Go.RowKit Go.Joins Go.Deep
set_option maxRecDepth 100000

theorem ints_in {H : Type} {enc : TypeId × Value → H} {W : World} {sp : Nat → Bool} {held : Bool} {fuel : Nat} {a : Option Addr} {len cap : Nat} {x : DataW H × List MemPlace}
    (hf : DataW.trod enc Tryz.prog W 0 sp held fuel 35 [.slice a len cap] = some x) : ∃ L, SliceN W.heap.size W a len L := by
  rcases open_slice Tryz.underlying35 hf with ⟨hcs, _⟩ | ⟨ad, l, c, m, k, D, Pl, hcs, _, hl, hm, hmm, _, hel⟩
  · simp at hcs
    obtain ⟨rfl, rfl, rfl⟩ := hcs
    exact ⟨[], by unfold maxLen; omega, rfl, .inl rfl⟩
  · simp at hcs
    obtain ⟨rfl, rfl, rfl⟩ := hcs
    have hlm : len ≤ m := by rw [hmm]; split <;> omega
    have each : ∀ j, j < len → ∃ y : Int, W.cell? (ad.add j) = some (.int .i64 y) := by
      intro j hj
      obtain ⟨cs, hc, ht⟩ := hel j (by omega)
      obtain ⟨y, rfl, _⟩ := DataW.trod_int Tryz.underlying3 ht
      rw [cellsWI] at hc
      obtain ⟨_, _, hcell⟩ := World.cells?_some hc
      have := hcell 0 (by omega)
      rw [add_add, Nat.mul_one, Nat.add_zero] at this
      exact ⟨y, this⟩
    obtain ⟨f, hfn⟩ := choose_lt each
    refine ⟨(List.range len).map f, by omega, by simp, ?_⟩
    by_cases h0 : len = 0
    · exact .inl h0
    · right
      obtain ⟨b, off, spot⟩ := ad
      have hc0 := hfn 0 (by omega)
      have hspot : spot = none := by simpa [Addr.add] using World.cell?_spot hc0
      subst hspot
      refine ⟨b, off, rfl, ?_, fun j y hj => ?_⟩
      · have := World.block_lt_of_cell? _ _ hc0
        simpa [Addr.add] using this
      · simp only [List.getElem?_map, Option.map_eq_some_iff] at hj
        obtain ⟨j', hj', rfl⟩ := hj
        obtain ⟨hjl, hje⟩ := List.getElem?_eq_some_iff.1 hj'
        simp at hjl hje
        subst hje
        have := hfn j hjl
        rw [Go.WideShapes.add_plain] at this
        exact this
theorem ints_wf {H : Type} {enc : TypeId × Value → H} {W : World} {sp : Nat → Bool} {held : Bool} {fuel : Nat} {a : Option Addr} {len cap : Nat} {x : DataW H × List MemPlace}
    (hf : DataW.trod enc Tryz.prog W 0 sp held fuel 35 [.slice a len cap] = some x) : ∃ L, SliceN W.heap.size W a len L ∧ ∀ x ∈ L, (Lit.int .i64 x).wf = true := by
  rcases open_slice Tryz.underlying35 hf with ⟨hcs, _⟩ | ⟨ad, l, c, m, k, D, Pl, hcs, _, hl, hm, hmm, _, hel⟩
  · simp at hcs
    obtain ⟨rfl, rfl, rfl⟩ := hcs
    exact ⟨[], ⟨by unfold maxLen; omega, rfl, .inl rfl⟩, fun x hx => by cases hx⟩
  · simp at hcs
    obtain ⟨rfl, rfl, rfl⟩ := hcs
    have hlm : len ≤ m := by rw [hmm]; split <;> omega
    have each : ∀ j, j < len → ∃ y : Int, W.cell? (ad.add j) = some (.int .i64 y) ∧ (Lit.int .i64 y).wf = true := by
      intro j hj
      obtain ⟨cs, hc, ht⟩ := hel j (by omega)
      obtain ⟨y, rfl, _, hwy⟩ := DataW.trod_int Tryz.underlying3 ht
      rw [cellsWI] at hc
      obtain ⟨_, _, hcell⟩ := World.cells?_some hc
      have := hcell 0 (by omega)
      rw [add_add, Nat.mul_one, Nat.add_zero] at this
      exact ⟨y, this, hwy⟩
    obtain ⟨f, hfn⟩ := choose_lt each
    refine ⟨(List.range len).map f, ⟨by omega, by simp, ?_⟩, fun x hx => by
      obtain ⟨j, hj, rfl⟩ := List.mem_map.1 hx
      exact (hfn j (List.mem_range.1 hj)).2⟩
    by_cases h0 : len = 0
    · exact .inl h0
    · right
      obtain ⟨b, off, spot⟩ := ad
      have hc0 := (hfn 0 (by omega)).1
      have hspot : spot = none := by simpa [Addr.add] using World.cell?_spot hc0
      subst hspot
      refine ⟨b, off, rfl, ?_, fun j y hj => ?_⟩
      · have := World.block_lt_of_cell? _ _ hc0
        simpa [Addr.add] using this
      · simp only [List.getElem?_map, Option.map_eq_some_iff] at hj
        obtain ⟨j', hj', rfl⟩ := hj
        obtain ⟨hjl, hje⟩ := List.getElem?_eq_some_iff.1 hj'
        simp at hjl hje
        subst hje
        have := (hfn j hjl).1
        rw [Go.WideShapes.add_plain] at this
        exact this
end Go.Proofs.YtneohabkoighcaaGreat

namespace Go.Proofs.YtneohabkoighcaaGreat
open Go.ChangeShapes Go.WideShapes Go.ChangeAt Go.RowKit Go.Joins Go.Deep
set_option maxRecDepth 100000

theorem bulk_one {H : Type} (d : DataW H) : 1 ≤ Rows.uptoBulk d := by
  cases d with
  | lit l => cases l <;> simp [Rows.uptoBulk]
  | nil => simp [Rows.uptoBulk]
  | ptr d => simp [Rows.uptoBulk]
  | slice elems spare => simp [Rows.uptoBulk]
  | agg parts => simp [Rows.uptoBulk]
  | iface t d => simp [Rows.uptoBulk]
  | map entries => simp [Rows.uptoBulk]
  | held h => simp [Rows.uptoBulk]
theorem bulk_part {H : Type} {d : DataW H} {l : List (DataW H)} (h : d ∈ l) : Rows.uptoBulk d ≤ Rows.uptoBulkAll l := by
  induction l with
  | nil => cases h
  | cons x r ih =>
    simp only [Rows.uptoBulkAll]
    cases List.mem_cons.1 h with
    | inl e => subst e; omega
    | inr e => have := ih e; omega
theorem bulk_len {H : Type} (l : List (DataW H)) : l.length ≤ Rows.uptoBulkAll l := by
  induction l with
  | nil => simp [Rows.uptoBulkAll]
  | cons x r ih => have := bulk_one x; simp only [Rows.uptoBulkAll, List.length_cons]; omega
theorem bulk_each {H : Type} {k : Nat} {l : List (DataW H)} (h : ∀ d ∈ l, k ≤ Rows.uptoBulk d) : l.length * k ≤ Rows.uptoBulkAll l := by
  induction l with
  | nil => simp [Rows.uptoBulkAll]
  | cons x r ih =>
    have h1 := h x (.head _)
    have h2 := ih fun d hd => h d (.tail _ hd)
    simp only [Rows.uptoBulkAll, List.length_cons, Nat.add_mul, Nat.one_mul]
    omega

theorem cellsIS : Tryz.prog.cellsOf 35 = 1 := by kernel_rfl

section
variable {H : Type} {enc : TypeId × Value → H} {W : World} {sp : Nat → Bool} {held : Bool}
theorem trod_five {P : Program} {base : Nat} {t : TypeId} {f0 f1 f2 f3 f4 : Field} {fuel : Nat} {cs : List Value} {x : DataW H × List MemPlace} (ht : P.underlying t = some (.struct #[f0, f1, f2, f3, f4])) (h : DataW.trod enc P W base sp held fuel t cs = some x) :
    ∃ (y0 y1 y2 y3 y4 : DataW H × List MemPlace) (n : Nat), x.1 = .agg [y0.1, y1.1, y2.1, y3.1, y4.1] ∧ cs.length = P.cellsOf t ∧
      DataW.trod enc P W base sp held n f0.type ((cs.drop f0.offset).take (P.cellsOf f0.type)) = some y0 ∧ DataW.trod enc P W base sp held n f1.type ((cs.drop f1.offset).take (P.cellsOf f1.type)) = some y1 ∧
      DataW.trod enc P W base sp held n f2.type ((cs.drop f2.offset).take (P.cellsOf f2.type)) = some y2 ∧ DataW.trod enc P W base sp held n f3.type ((cs.drop f3.offset).take (P.cellsOf f3.type)) = some y3 ∧
      DataW.trod enc P W base sp held n f4.type ((cs.drop f4.offset).take (P.cellsOf f4.type)) = some y4 := by
  obtain ⟨xs, n, _, rfl, hl, hlen, hf⟩ := DataW.trod_struct ht h
  match xs, hlen with
  | [y0, y1, y2, y3, y4], _ => exact ⟨y0, y1, y2, y3, y4, n, by simp, hl, by simpa using hf 0 f0 rfl, by simpa using hf 1 f1 rfl, by simpa using hf 2 f2 rfl, by simpa using hf 3 f3 rfl, by simpa using hf 4 f4 rfl⟩
theorem trod_seven {P : Program} {base : Nat} {t : TypeId} {f0 f1 f2 f3 f4 f5 f6 : Field} {fuel : Nat} {cs : List Value} {x : DataW H × List MemPlace} (ht : P.underlying t = some (.struct #[f0, f1, f2, f3, f4, f5, f6])) (h : DataW.trod enc P W base sp held fuel t cs = some x) :
    ∃ (y0 y1 y2 y3 y4 y5 y6 : DataW H × List MemPlace) (n : Nat), cs.length = P.cellsOf t ∧
      DataW.trod enc P W base sp held n f0.type ((cs.drop f0.offset).take (P.cellsOf f0.type)) = some y0 ∧ DataW.trod enc P W base sp held n f1.type ((cs.drop f1.offset).take (P.cellsOf f1.type)) = some y1 ∧
      DataW.trod enc P W base sp held n f2.type ((cs.drop f2.offset).take (P.cellsOf f2.type)) = some y2 ∧ DataW.trod enc P W base sp held n f3.type ((cs.drop f3.offset).take (P.cellsOf f3.type)) = some y3 ∧
      DataW.trod enc P W base sp held n f4.type ((cs.drop f4.offset).take (P.cellsOf f4.type)) = some y4 ∧ DataW.trod enc P W base sp held n f5.type ((cs.drop f5.offset).take (P.cellsOf f5.type)) = some y5 ∧
      DataW.trod enc P W base sp held n f6.type ((cs.drop f6.offset).take (P.cellsOf f6.type)) = some y6 := by
  obtain ⟨xs, n, _, rfl, hl, hlen, hf⟩ := DataW.trod_struct ht h
  match xs, hlen with
  | [y0, y1, y2, y3, y4, y5, y6], _ => exact ⟨y0, y1, y2, y3, y4, y5, y6, n, hl, by simpa using hf 0 f0 rfl, by simpa using hf 1 f1 rfl, by simpa using hf 2 f2 rfl, by simpa using hf 3 f3 rfl, by simpa using hf 4 f4 rfl, by simpa using hf 5 f5 rfl, by simpa using hf 6 f6 rfl⟩

/-- A slice of ints that came in: its one cell, opened. -/
theorem intS_in {fuel : Nat} {cs : List Value} {x : DataW H × List MemPlace}
    (hf : DataW.trod enc Tryz.prog W 0 sp held fuel 35 cs = some x) : ∃ a len cap L, cs = [.slice a len cap] ∧ SliceN W.heap.size W a len L := by
  rcases open_slice Tryz.underlying35 hf with ⟨hcs, _⟩ | ⟨ad, len, cap, m, k, D, Pl, hcs, _⟩
  · subst hcs
    obtain ⟨L, hL⟩ := ints_in hf
    exact ⟨_, _, _, L, rfl, hL⟩
  · subst hcs
    obtain ⟨L, hL⟩ := ints_in hf
    exact ⟨_, _, _, L, rfl, hL⟩
/-- A state's ten cells, opened. -/
theorem state_in {fuel : Nat} {cs : List Value} {x : DataW H × List MemPlace} (hf : DataW.trod enc Tryz.prog W 0 sp held fuel 61 cs = some x) :
    ∃ a n c x a1 n1 c1 a2 n2 c2 t R L G, cs = stl a n c x a1 n1 c1 a2 n2 c2 t ∧ StS W a n a1 n1 a2 n2 R L G := by
  obtain ⟨y0, y1, y2, y3, n, _, hl, h0, h1, h2, h3⟩ := trod_struct4 Tryz.underlying61 hf
  rw [cellsSt] at hl
  match cs, hl with
  | [v0, v1, v2, v3, v4, v5, v6, v7, v8, v9], _ =>
    simp only [cellsWS, cellsW, cellsMem, cellsWI, List.drop, List.take] at h0 h1 h2 h3
    obtain ⟨a, k, c, R, e0, hR⟩ := words_in h0
    obtain ⟨n, i, b, t, q, s, e1, _⟩ := open_word6 h1
    obtain ⟨a1, n1, c1, a2, n2, c2, L, G, e2, hM⟩ := mem_in h2
    obtain ⟨tr, e3, _⟩ := DataW.trod_int Tryz.underlying3 h3
    simp at e0 e1 e2 e3
    obtain ⟨rfl, rfl, rfl, rfl, rfl, rfl⟩ := e1
    obtain ⟨rfl, rfl⟩ := e2
    subst e0 e3
    exact ⟨a, k, c, ⟨n, i, b, t, q, s⟩, a1, n1, c1, a2, n2, c2, tr, R, L, G, rfl, hR, hM⟩
end
end Go.Proofs.YtneohabkoighcaaGreat
