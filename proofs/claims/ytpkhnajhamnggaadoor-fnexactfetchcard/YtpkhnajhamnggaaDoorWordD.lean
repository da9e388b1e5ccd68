/- A word of the laws as data: six cells of it are opened and shut. No condition. -/
import Derived.Test.YtpkhnajhamnggaaDoorRows
import Derived.WalkKit
import Derived.ProofKit
import Derived.OpenShut
import Derived.Lib.SmallJoins
import Derived.Deep.Slices
import Derived.Deep.Strs
namespace Go.Proofs.YtpkhnajhamnggaaDoor
open Go.ChangeShapes Go.WideShapes Go.ChangeAt Go.RowKit Go.Joins Go.Deep
set_option maxRecDepth 100000

theorem cellsW : Tryd.prog.cellsOf 26 = 6 := by kernel_rfl
theorem cellsWK : Tryd.prog.cellsOf 24 = 4 := by kernel_rfl
theorem cellsWI : Tryd.prog.cellsOf 3 = 1 := by kernel_rfl
theorem cellsWB : Tryd.prog.cellsOf 4 = 1 := by kernel_rfl

section
variable {H : Type} {enc : TypeId × Value → H} {W : World} {base : Nat} {sp : Nat → Bool} {held : Bool}

/-- A key's four cells, opened. -/
theorem open_key4 {fuel : Nat} {cs : List Value} {x : DataW H × List MemPlace} (h : DataW.trod enc Tryd.prog W base sp held fuel 24 cs = some x) :
    ∃ b t p s : Int, cs = [.int .i64 b, .int .i64 t, .int .i64 p, .int .i64 s] ∧ x = (.agg [.lit (.int .i64 b), .lit (.int .i64 t), .lit (.int .i64 p), .lit (.int .i64 s)], []) ∧
      (Lit.int .i64 b).wf = true ∧ (Lit.int .i64 t).wf = true ∧ (Lit.int .i64 p).wf = true ∧ (Lit.int .i64 s).wf = true := by
  obtain ⟨y0, y1, y2, y3, n, rfl, hl, h0, h1, h2, h3⟩ := trod_struct4 Tryd.underlying24 h
  rw [cellsWK] at hl
  match cs, hl with
  | [v0, v1, v2, v3], _ =>
    simp only [cellsWI, List.drop, List.take] at h0 h1 h2 h3
    obtain ⟨b, e0, rfl, wb⟩ := DataW.trod_int Tryd.underlying3 h0
    obtain ⟨t, e1, rfl, wt⟩ := DataW.trod_int Tryd.underlying3 h1
    obtain ⟨p, e2, rfl, wp⟩ := DataW.trod_int Tryd.underlying3 h2
    obtain ⟨s, e3, rfl, ws⟩ := DataW.trod_int Tryd.underlying3 h3
    simp at e0 e1 e2 e3
    subst e0 e1 e2 e3
    exact ⟨b, t, p, s, rfl, rfl, wb, wt, wp, ws⟩

theorem shut_key4 {b t p s : Int} (wb : (Lit.int .i64 b).wf = true) (wt : (Lit.int .i64 t).wf = true) (wp : (Lit.int .i64 p).wf = true) (ws : (Lit.int .i64 s).wf = true) :
    DataW.trod enc Tryd.prog W base sp held 2 24 [.int .i64 b, .int .i64 t, .int .i64 p, .int .i64 s] = some (.agg [.lit (.int .i64 b), .lit (.int .i64 t), .lit (.int .i64 p), .lit (.int .i64 s)], []) :=
  trod_struct4_mk (n := 1) (y0 := (.lit (.int .i64 b), [])) (y1 := (.lit (.int .i64 t), [])) (y2 := (.lit (.int .i64 p), [])) (y3 := (.lit (.int .i64 s), [])) Tryd.underlying24 (by rw [cellsWK]; rfl)
    (by simp [cellsWI, DataW.trod, Tryd.underlying3, wb]) (by simp [cellsWI, DataW.trod, Tryd.underlying3, wt]) (by simp [cellsWI, DataW.trod, Tryd.underlying3, wp]) (by simp [cellsWI, DataW.trod, Tryd.underlying3, ws])

/-- A word's six cells, opened. -/
theorem open_word6 {fuel : Nat} {cs : List Value} {x : DataW H × List MemPlace} (h : DataW.trod enc Tryd.prog W base sp held fuel 26 cs = some x) :
    ∃ (n : Int) (i : Bool) (b t p s : Int), cs = [.int .i64 n, .bool i, .int .i64 b, .int .i64 t, .int .i64 p, .int .i64 s] ∧
      x = (.agg [.lit (.int .i64 n), .lit (.bool i), .agg [.lit (.int .i64 b), .lit (.int .i64 t), .lit (.int .i64 p), .lit (.int .i64 s)]], []) ∧
      (Lit.int .i64 n).wf = true ∧ (Lit.int .i64 b).wf = true ∧ (Lit.int .i64 t).wf = true ∧ (Lit.int .i64 p).wf = true ∧ (Lit.int .i64 s).wf = true := by
  obtain ⟨y0, y1, y2, n, rfl, hl, h0, h1, h2⟩ := trod_struct3 Tryd.underlying26 h
  rw [cellsW] at hl
  match cs, hl with
  | [v0, v1, v2, v3, v4, v5], _ =>
    simp only [cellsWI, cellsWB, cellsWK, List.drop, List.take] at h0 h1 h2
    obtain ⟨n, e0, rfl, wn⟩ := DataW.trod_int Tryd.underlying3 h0
    obtain ⟨i, e1, rfl⟩ := DataW.trod_bool Tryd.underlying4 h1
    obtain ⟨b, t, p, s, e2, rfl, wb, wt, wp, ws⟩ := open_key4 h2
    simp at e0 e1 e2
    obtain ⟨rfl, rfl, rfl, rfl⟩ := e2
    subst e0 e1
    exact ⟨n, i, b, t, p, s, rfl, rfl, wn, wb, wt, wp, ws⟩

theorem shut_word6 {n : Int} {i : Bool} {b t p s : Int} (wn : (Lit.int .i64 n).wf = true) (wb : (Lit.int .i64 b).wf = true) (wt : (Lit.int .i64 t).wf = true) (wp : (Lit.int .i64 p).wf = true) (ws : (Lit.int .i64 s).wf = true) :
    DataW.trod enc Tryd.prog W base sp held 3 26 [.int .i64 n, .bool i, .int .i64 b, .int .i64 t, .int .i64 p, .int .i64 s] =
      some (.agg [.lit (.int .i64 n), .lit (.bool i), .agg [.lit (.int .i64 b), .lit (.int .i64 t), .lit (.int .i64 p), .lit (.int .i64 s)]], []) :=
  trod_struct3_mk (n := 2) (y0 := (.lit (.int .i64 n), [])) (y1 := (.lit (.bool i), [])) (y2 := (.agg [.lit (.int .i64 b), .lit (.int .i64 t), .lit (.int .i64 p), .lit (.int .i64 s)], [])) Tryd.underlying26 (by rw [cellsW]; rfl)
    (by simp [cellsWI, DataW.trod, Tryd.underlying3, wn]) (by simp [cellsWB, DataW.trod, Tryd.underlying4]) (by simpa [cellsWK] using shut_key4 wb wt wp ws)

/-- A word by value, opened. -/
theorem open_word {r : Reach} {b0 : Nat} {v : Value} {d : DataW H} {p : List MemPlace} (hv : Value.okWide Tryd.prog W r b0 26 v) (h : DataW.Trod enc Tryd.prog W base sp held 26 v d p) :
    ∃ (n : Int) (i : Bool) (b t q s : Int), v = .agg #[.int .i64 n, .bool i, .int .i64 b, .int .i64 t, .int .i64 q, .int .i64 s] ∧
      d = .agg [.lit (.int .i64 n), .lit (.bool i), .agg [.lit (.int .i64 b), .lit (.int .i64 t), .lit (.int .i64 q), .lit (.int .i64 s)]] ∧ p = [] ∧
      (Lit.int .i64 n).wf = true ∧ (Lit.int .i64 b).wf = true ∧ (Lit.int .i64 t).wf = true ∧ (Lit.int .i64 q).wf = true ∧ (Lit.int .i64 s).wf = true := by
  obtain ⟨cs, rfl, hsz⟩ := okWide_struct Tryd.underlying26 hv
  obtain ⟨fuel, hf⟩ := h
  obtain ⟨n, i, b, t, q, s, hc, hx, wn, wb, wt, wq, ws⟩ := open_word6 hf
  simp only [Prod.mk.injEq] at hx
  obtain ⟨l⟩ := cs
  simp [Value.cells] at hc
  subst hc
  exact ⟨n, i, b, t, q, s, rfl, hx.1, hx.2, wn, wb, wt, wq, ws⟩

theorem shut_word {n : Int} {i : Bool} {b t p s : Int} (wn : (Lit.int .i64 n).wf = true) (wb : (Lit.int .i64 b).wf = true) (wt : (Lit.int .i64 t).wf = true) (wp : (Lit.int .i64 p).wf = true) (ws : (Lit.int .i64 s).wf = true) :
    DataW.Trod enc Tryd.prog W base sp held 26 (.agg #[.int .i64 n, .bool i, .int .i64 b, .int .i64 t, .int .i64 p, .int .i64 s])
      (.agg [.lit (.int .i64 n), .lit (.bool i), .agg [.lit (.int .i64 b), .lit (.int .i64 t), .lit (.int .i64 p), .lit (.int .i64 s)]]) [] :=
  ⟨3, by simpa [Value.cells] using shut_word6 wn wb wt wp ws⟩
end
end Go.Proofs.YtpkhnajhamnggaaDoor
