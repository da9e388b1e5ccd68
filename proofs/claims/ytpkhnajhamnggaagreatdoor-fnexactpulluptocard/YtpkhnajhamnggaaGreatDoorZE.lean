/- Memories as values: what MemoryOk, Filter, Drop and Sweep answer, as lists. No condition. · A word of the laws as data: six cells of it are opened and shut. No condition. · A memory of the laws as data: its two slices are opened. No condition. · MemoryNew of the specification: what it answers. No condition. · MemoryOk and Filter of the specification at all memories: what they answer. No condition. · wordsOk and isTrap of the program at all lists and numbers: what they answer. No condition. · MemoryOk, MemoryNew and Filter of the program at all memories: what they answer. No condition. · Taken and MayPut of the specification and of the program, at all words: what they answer. No condition. · Who is open and who may seal: l4Open, l4Sealer of the specification, rightKey, maySeal of the program, at all words. No condition. · Try of the specification at all words: what it answers. No condition. · What Read and Write answer, as lists. No condition. · Plain facts on memories as lists: what is gone is read as a bare word, swept or not. No condition. · Read of the specification at all memories: what it answers. No condition. -/
import Derived.Test.YtpkhnajhamnggaaGreatDoorZC
import Derived.Test.YtpkhnajhamnggaaGreatDoorRows
import Derived.WalkKit
import Derived.ProofKit
import Derived.OpenShut
import Derived.Lib.SmallJoins
import Derived.Deep.Slices
import Derived.Deep.Strs
import Derived.ChangeOld
import Derived.ChangeSame
import Derived.Below
import Derived.Lib.Hide
namespace Go.Proofs.YtpkhnajhamnggaaGreatDoor
open Go.ChangeShapes Go.WideShapes Go.ChangeAt Go.RowKit
set_option maxRecDepth 100000

/-- A word as a value. -/
def wdV (x : Wd) : Value := .agg #[.int .i64 x.n, .bool x.i, .int .i64 x.b, .int .i64 x.t, .int .i64 x.p, .int .i64 x.s]
def wd0 : Wd := ⟨0, false, 0, 0, 0, 0⟩
/-- Whether a word is right. -/
def okW (x : Wd) : Bool := wokB x.n x.i x.b x.t x.p x.s
/-- What MemoryOk answers. -/
def mokB (L : List Wd) (G : List Bool) : Bool := decide (L.length = 24) && decide (G.length = 24) && L.all okW
/-- A bare word. -/
def bareW (x : Wd) : Wd := ⟨x.n % 65536, false, 0, 0, 0, 0⟩
/-- Whether what begins at b is gone. -/
def goneB (G : List Bool) (b : Int) : Bool := decide (0 ≤ b ∧ b ≤ (G.length : Int) - 1) && G.getD b.toNat false
/-- What Filter answers. -/
def filW (G : List Bool) (x : Wd) : Wd := bif x.i && goneB G x.b then bareW x else x
/-- Whether there is a word at n. -/
def inB (n : Int) (len : Nat) : Bool := decide (0 ≤ n ∧ n ≤ (len : Int) - 1)
def keepG (L : List Wd) (G : List Bool) : List Bool := bif mokB L G then G else []
/-- What is gone behind Drop. -/
def dropG (L : List Wd) (G : List Bool) (n : Int) : List Bool := bif mokB L G then (bif inB n 24 then G.set n.toNat true else G) else []
def keepL (L : List Wd) (G : List Bool) : List Wd := bif mokB L G then L else []
/-- The words behind Sweep. -/
def swpL (L : List Wd) (G : List Bool) (n : Int) : List Wd := bif mokB L G then (bif inB n 24 then L.set n.toNat (filW G (L.getD n.toNat wd0)) else L) else []
theorem mok_parts {L : List Wd} {G : List Bool} (h : mokB L G = true) : L.length = 24 ∧ G.length = 24 ∧ ∀ x ∈ L, okW x = true := by
  unfold mokB at h
  simp only [Bool.and_eq_true, decide_eq_true_eq] at h
  exact ⟨h.1.1, h.1.2, List.all_eq_true.1 h.2⟩

/-- A memory: two slices. -/
structure MemS (w : World) (a : Option Addr) (n : Nat) (a' : Option Addr) (n' : Nat) (L : List Wd) (G : List Bool) : Prop where
  ws : SliceW w.heap.size w a n L
  gs : SliceB w.heap.size w a' n' G
theorem MemS.below {w w' : World} {a a' : Option Addr} {n n' : Nat} {L : List Wd} {G : List Bool} (h : MemS w a n a' n' L G) (hb : Below w.heap.size w w') : MemS w' a n a' n' L G :=
  ⟨(h.ws.keep hb).mono hb.size, (h.gs.keep hb).mono hb.size⟩
theorem MemS.to {w0 w w' : World} {a a' : Option Addr} {n n' : Nat} {L : List Wd} {G : List Bool} (h : MemS w a n a' n' L G) (hb : Below w.heap.size w w') (_ : Below w0.heap.size w0 w) : MemS w' a n a' n' L G := h.below hb

/-- Two cells of a block, which may be written. -/
structure Duo (w : World) (r : Nat) (v0 v1 : Value) : Prop where
  lt : r < w.heap.size
  c0 : w.cell? ⟨r, 0, none⟩ = some v0
  c1 : w.cell? ⟨r, 1, none⟩ = some v1
  f0 : w.frozen? ⟨r, 0, none⟩ = false
  f1 : w.frozen? ⟨r, 1, none⟩ = false
section
variable {w w' : World} {r q : Nat} {v0 v1 : Value}
theorem Duo.keep (h : Duo w r v0 v1) (k : KeepBut q w w') (hq : r ≠ q) : Duo w' r v0 v1 :=
  ⟨Nat.lt_of_lt_of_le h.lt k.size, (k.cell (p := ⟨r, 0, none⟩) h.lt hq).trans h.c0, (k.cell (p := ⟨r, 1, none⟩) h.lt hq).trans h.c1, (k.frozen (p := ⟨r, 0, none⟩) h.lt hq).trans h.f0, (k.frozen (p := ⟨r, 1, none⟩) h.lt hq).trans h.f1⟩
theorem Duo.below (h : Duo w r v0 v1) (k : Below w.heap.size w w') : Duo w' r v0 v1 := h.keep (q := w.heap.size) (KeepBut.ofBelow k) (Nat.ne_of_lt h.lt)
theorem Duo.alloc (h : Duo w r v0 v1) (o : Obj) : Duo (w.alloc o) r v0 v1 := h.keep (q := w.heap.size) ((KeepBut.refl _ _).alloc o) (Nat.ne_of_lt h.lt)
theorem Duo.drew (h : Duo w r v0 v1) : Duo w.drew r v0 v1 := h.below ((Below.refl _ _).drew)
theorem Duo.other (h : Duo w r v0 v1) {r' : Nat} (hr : r ≠ r') (o : Nat) (u : Value) : Duo (w.setCell ⟨r', o, none⟩ u) r v0 v1 := h.keep (q := r') ((KeepBut.refl _ _).setCell o u) hr
theorem Duo.set0 (h : Duo w r v0 v1) (u : Value) : Duo (w.setCell ⟨r, 0, none⟩ u) r u v1 := by
  obtain ⟨l, c0, c1, f0, f1⟩ := h
  exact ⟨Nat.lt_of_lt_of_le l ((Below.refl 0 w).setCell (p := ⟨r, 0, none⟩) (Nat.zero_le _) _).size, by go_simp, by go_simp, by go_simp, by go_simp⟩
theorem Duo.set1 (h : Duo w r v0 v1) (u : Value) : Duo (w.setCell ⟨r, 1, none⟩ u) r v0 u := by
  obtain ⟨l, c0, c1, f0, f1⟩ := h
  exact ⟨Nat.lt_of_lt_of_le l ((Below.refl 0 w).setCell (p := ⟨r, 1, none⟩) (Nat.zero_le _) _).size, by go_simp, by go_simp, by go_simp, by go_simp⟩
end
theorem Duo.new (w : World) (v0 v1 : Value) (T : TypeId) : Duo (w.alloc (.cells #[v0, v1] T)) w.heap.size v0 v1 :=
  ⟨by simp, by simp, by simp, by simp, by simp⟩
end Go.Proofs.YtpkhnajhamnggaaGreatDoor

namespace Go.Proofs.YtpkhnajhamnggaaGreatDoor
open Go.ChangeShapes Go.WideShapes Go.ChangeAt Go.RowKit Go.Joins Go.Deep
set_option maxRecDepth 100000

theorem cellsW : Tryz.prog.cellsOf 27 = 6 := by kernel_rfl
theorem cellsWK : Tryz.prog.cellsOf 25 = 4 := by kernel_rfl
theorem cellsWI : Tryz.prog.cellsOf 3 = 1 := by kernel_rfl
theorem cellsWB : Tryz.prog.cellsOf 4 = 1 := by kernel_rfl

section
variable {H : Type} {enc : TypeId × Value → H} {W : World} {base : Nat} {sp : Nat → Bool} {held : Bool}

/-- A key's four cells, opened. -/
theorem open_key4 {fuel : Nat} {cs : List Value} {x : DataW H × List MemPlace} (h : DataW.trod enc Tryz.prog W base sp held fuel 25 cs = some x) :
    ∃ b t p s : Int, cs = [.int .i64 b, .int .i64 t, .int .i64 p, .int .i64 s] ∧ x = (.agg [.lit (.int .i64 b), .lit (.int .i64 t), .lit (.int .i64 p), .lit (.int .i64 s)], []) ∧
      (Lit.int .i64 b).wf = true ∧ (Lit.int .i64 t).wf = true ∧ (Lit.int .i64 p).wf = true ∧ (Lit.int .i64 s).wf = true := by
  obtain ⟨y0, y1, y2, y3, n, rfl, hl, h0, h1, h2, h3⟩ := trod_struct4 Tryz.underlying25 h
  rw [cellsWK] at hl
  match cs, hl with
  | [v0, v1, v2, v3], _ =>
    simp only [cellsWI, List.drop, List.take] at h0 h1 h2 h3
    obtain ⟨b, e0, rfl, wb⟩ := DataW.trod_int Tryz.underlying3 h0
    obtain ⟨t, e1, rfl, wt⟩ := DataW.trod_int Tryz.underlying3 h1
    obtain ⟨p, e2, rfl, wp⟩ := DataW.trod_int Tryz.underlying3 h2
    obtain ⟨s, e3, rfl, ws⟩ := DataW.trod_int Tryz.underlying3 h3
    simp at e0 e1 e2 e3
    subst e0 e1 e2 e3
    exact ⟨b, t, p, s, rfl, rfl, wb, wt, wp, ws⟩

theorem shut_key4 {b t p s : Int} (wb : (Lit.int .i64 b).wf = true) (wt : (Lit.int .i64 t).wf = true) (wp : (Lit.int .i64 p).wf = true) (ws : (Lit.int .i64 s).wf = true) :
    DataW.trod enc Tryz.prog W base sp held 2 25 [.int .i64 b, .int .i64 t, .int .i64 p, .int .i64 s] = some (.agg [.lit (.int .i64 b), .lit (.int .i64 t), .lit (.int .i64 p), .lit (.int .i64 s)], []) :=
  trod_struct4_mk (n := 1) (y0 := (.lit (.int .i64 b), [])) (y1 := (.lit (.int .i64 t), [])) (y2 := (.lit (.int .i64 p), [])) (y3 := (.lit (.int .i64 s), [])) Tryz.underlying25 (by rw [cellsWK]; rfl)
    (by simp [cellsWI, DataW.trod, Tryz.underlying3, wb]) (by simp [cellsWI, DataW.trod, Tryz.underlying3, wt]) (by simp [cellsWI, DataW.trod, Tryz.underlying3, wp]) (by simp [cellsWI, DataW.trod, Tryz.underlying3, ws])

/-- A word's six cells, opened. -/
theorem open_word6 {fuel : Nat} {cs : List Value} {x : DataW H × List MemPlace} (h : DataW.trod enc Tryz.prog W base sp held fuel 27 cs = some x) :
    ∃ (n : Int) (i : Bool) (b t p s : Int), cs = [.int .i64 n, .bool i, .int .i64 b, .int .i64 t, .int .i64 p, .int .i64 s] ∧
      x = (.agg [.lit (.int .i64 n), .lit (.bool i), .agg [.lit (.int .i64 b), .lit (.int .i64 t), .lit (.int .i64 p), .lit (.int .i64 s)]], []) ∧
      (Lit.int .i64 n).wf = true ∧ (Lit.int .i64 b).wf = true ∧ (Lit.int .i64 t).wf = true ∧ (Lit.int .i64 p).wf = true ∧ (Lit.int .i64 s).wf = true := by
  obtain ⟨y0, y1, y2, n, rfl, hl, h0, h1, h2⟩ := trod_struct3 Tryz.underlying27 h
  rw [cellsW] at hl
  match cs, hl with
  | [v0, v1, v2, v3, v4, v5], _ =>
    simp only [cellsWI, cellsWB, cellsWK, List.drop, List.take] at h0 h1 h2
    obtain ⟨n, e0, rfl, wn⟩ := DataW.trod_int Tryz.underlying3 h0
    obtain ⟨i, e1, rfl⟩ := DataW.trod_bool Tryz.underlying4 h1
    obtain ⟨b, t, p, s, e2, rfl, wb, wt, wp, ws⟩ := open_key4 h2
    simp at e0 e1 e2
    obtain ⟨rfl, rfl, rfl, rfl⟩ := e2
    subst e0 e1
    exact ⟨n, i, b, t, p, s, rfl, rfl, wn, wb, wt, wp, ws⟩

theorem shut_word6 {n : Int} {i : Bool} {b t p s : Int} (wn : (Lit.int .i64 n).wf = true) (wb : (Lit.int .i64 b).wf = true) (wt : (Lit.int .i64 t).wf = true) (wp : (Lit.int .i64 p).wf = true) (ws : (Lit.int .i64 s).wf = true) :
    DataW.trod enc Tryz.prog W base sp held 3 27 [.int .i64 n, .bool i, .int .i64 b, .int .i64 t, .int .i64 p, .int .i64 s] =
      some (.agg [.lit (.int .i64 n), .lit (.bool i), .agg [.lit (.int .i64 b), .lit (.int .i64 t), .lit (.int .i64 p), .lit (.int .i64 s)]], []) :=
  trod_struct3_mk (n := 2) (y0 := (.lit (.int .i64 n), [])) (y1 := (.lit (.bool i), [])) (y2 := (.agg [.lit (.int .i64 b), .lit (.int .i64 t), .lit (.int .i64 p), .lit (.int .i64 s)], [])) Tryz.underlying27 (by rw [cellsW]; rfl)
    (by simp [cellsWI, DataW.trod, Tryz.underlying3, wn]) (by simp [cellsWB, DataW.trod, Tryz.underlying4]) (by simpa [cellsWK] using shut_key4 wb wt wp ws)

/-- A word by value, opened. -/
theorem open_word {r : Reach} {b0 : Nat} {v : Value} {d : DataW H} {p : List MemPlace} (hv : Value.okWide Tryz.prog W r b0 27 v) (h : DataW.Trod enc Tryz.prog W base sp held 27 v d p) :
    ∃ (n : Int) (i : Bool) (b t q s : Int), v = .agg #[.int .i64 n, .bool i, .int .i64 b, .int .i64 t, .int .i64 q, .int .i64 s] ∧
      d = .agg [.lit (.int .i64 n), .lit (.bool i), .agg [.lit (.int .i64 b), .lit (.int .i64 t), .lit (.int .i64 q), .lit (.int .i64 s)]] ∧ p = [] ∧
      (Lit.int .i64 n).wf = true ∧ (Lit.int .i64 b).wf = true ∧ (Lit.int .i64 t).wf = true ∧ (Lit.int .i64 q).wf = true ∧ (Lit.int .i64 s).wf = true := by
  obtain ⟨cs, rfl, hsz⟩ := okWide_struct Tryz.underlying27 hv
  obtain ⟨fuel, hf⟩ := h
  obtain ⟨n, i, b, t, q, s, hc, hx, wn, wb, wt, wq, ws⟩ := open_word6 hf
  simp only [Prod.mk.injEq] at hx
  obtain ⟨l⟩ := cs
  simp [Value.cells] at hc
  subst hc
  exact ⟨n, i, b, t, q, s, rfl, hx.1, hx.2, wn, wb, wt, wq, ws⟩

theorem shut_word {n : Int} {i : Bool} {b t p s : Int} (wn : (Lit.int .i64 n).wf = true) (wb : (Lit.int .i64 b).wf = true) (wt : (Lit.int .i64 t).wf = true) (wp : (Lit.int .i64 p).wf = true) (ws : (Lit.int .i64 s).wf = true) :
    DataW.Trod enc Tryz.prog W base sp held 27 (.agg #[.int .i64 n, .bool i, .int .i64 b, .int .i64 t, .int .i64 p, .int .i64 s])
      (.agg [.lit (.int .i64 n), .lit (.bool i), .agg [.lit (.int .i64 b), .lit (.int .i64 t), .lit (.int .i64 p), .lit (.int .i64 s)]]) [] :=
  ⟨3, by simpa [Value.cells] using shut_word6 wn wb wt wp ws⟩
end
end Go.Proofs.YtpkhnajhamnggaaGreatDoor

namespace Go.Proofs.YtpkhnajhamnggaaGreatDoor
open Go.ChangeShapes Go.WideShapes Go.ChangeAt Go.RowKit Go.Joins Go.Deep
set_option maxRecDepth 100000

theorem cellsMem : Tryz.prog.cellsOf 30 = 2 := by kernel_rfl
theorem cellsWS : Tryz.prog.cellsOf 23 = 1 := by kernel_rfl
theorem cellsBS : Tryz.prog.cellsOf 28 = 1 := by kernel_rfl

section
variable {H : Type} {enc : TypeId × Value → H} {W : World} {sp : Nat → Bool} {held : Bool}
/-- A slice of words that came in: its one cell, opened. -/
theorem words_in {fuel : Nat} {cs : List Value} {x : DataW H × List MemPlace}
    (hf : DataW.trod enc Tryz.prog W 0 sp held fuel 23 cs = some x) : ∃ a len cap L, cs = [.slice a len cap] ∧ SliceW W.heap.size W a len L := by
  rcases open_slice Tryz.underlying23 hf with ⟨hcs, _⟩ | ⟨ad, len, cap, m, k, D, Pl, hcs, _, hl, hm, hmm, _, hel⟩
  · exact ⟨none, 0, 0, [], hcs, by unfold maxLen; omega, rfl, .inl rfl⟩
  · have hlm : len ≤ m := by rw [hmm]; split <;> omega
    have each : ∀ j, j < len → ∃ y : Wd, ∀ i v, y.vs[i]? = some v → W.cell? (ad.add (j * 6 + i)) = some v := by
      intro j hj
      obtain ⟨cs, hc, ht⟩ := hel j (by omega)
      obtain ⟨n, i, b, t, p, s, rfl, _, _, _, _, _, _⟩ := open_word6 ht
      rw [cellsW] at hc
      obtain ⟨_, _, hcell⟩ := World.cells?_some hc
      refine ⟨⟨n, i, b, t, p, s⟩, fun i' v hv => ?_⟩
      have h6 : i' < 6 := (List.getElem?_eq_some_iff.1 hv).1
      have := hcell i' h6
      rw [add_add] at this
      rw [this]
      exact hv
    haveI : Inhabited Wd := ⟨⟨0, false, 0, 0, 0, 0⟩⟩
    obtain ⟨f, hfn⟩ := choose_lt each
    refine ⟨some ad, len, cap, (List.range len).map f, hcs, by omega, by simp, ?_⟩
    by_cases h0 : len = 0
    · exact .inl h0
    · right
      obtain ⟨b, off, spot⟩ := ad
      have hc0 := hfn 0 (by omega) 0 _ rfl
      have hspot : spot = none := by simpa [Addr.add] using World.cell?_spot hc0
      subst hspot
      refine ⟨b, off, rfl, ?_, fun j y hj => ?_⟩
      · have := World.block_lt_of_cell? _ _ hc0
        simpa [Addr.add] using this
      · simp only [List.getElem?_map, Option.map_eq_some_iff] at hj
        obtain ⟨j', hj', rfl⟩ := hj
        obtain ⟨hjl, hje⟩ := List.getElem?_eq_some_iff.1 hj'
        simp at hjl hje
        subst hje
        refine WordAt.of_vs fun i v hv => ?_
        have := hfn j hjl i v hv
        rw [Go.WideShapes.add_plain] at this
        rw [Nat.add_assoc]
        exact this
/-- A slice of bools that came in: its one cell, opened. -/
theorem bools_in {fuel : Nat} {cs : List Value} {x : DataW H × List MemPlace}
    (hf : DataW.trod enc Tryz.prog W 0 sp held fuel 28 cs = some x) : ∃ a len cap L, cs = [.slice a len cap] ∧ SliceB W.heap.size W a len L := by
  rcases open_slice Tryz.underlying28 hf with ⟨hcs, _⟩ | ⟨ad, len, cap, m, k, D, Pl, hcs, _, hl, hm, hmm, _, hel⟩
  · exact ⟨none, 0, 0, [], hcs, by unfold maxLen; omega, rfl, .inl rfl⟩
  · have hlm : len ≤ m := by rw [hmm]; split <;> omega
    have each : ∀ j, j < len → ∃ y : Bool, W.cell? (ad.add j) = some (.bool y) := by
      intro j hj
      obtain ⟨cs, hc, ht⟩ := hel j (by omega)
      obtain ⟨y, rfl, _⟩ := DataW.trod_bool Tryz.underlying4 ht
      rw [cellsWB] at hc
      obtain ⟨_, _, hcell⟩ := World.cells?_some hc
      have := hcell 0 (by omega)
      rw [add_add, Nat.mul_one, Nat.add_zero] at this
      exact ⟨y, this⟩
    obtain ⟨f, hfn⟩ := choose_lt each
    refine ⟨some ad, len, cap, (List.range len).map f, hcs, by omega, by simp, ?_⟩
    by_cases h0 : len = 0
    · exact .inl h0
    · right
      obtain ⟨b, off, spot⟩ := ad
      have hc0 := hfn 0 (by omega)
      have hspot : spot = none := by simpa [Addr.add] using World.cell?_spot hc0
      subst hspot
      refine ⟨b, off, rfl, ?_, fun j y hj => ?_⟩
      · have := World.block_lt_of_cell? _ _ hc0
        simpa [Addr.add] using this
      · simp only [List.getElem?_map, Option.map_eq_some_iff] at hj
        obtain ⟨j', hj', rfl⟩ := hj
        obtain ⟨hjl, hje⟩ := List.getElem?_eq_some_iff.1 hj'
        simp at hjl hje
        subst hje
        have := hfn j hjl
        rw [Go.WideShapes.add_plain] at this
        exact this
/-- A memory by value, opened. -/
theorem open_mem {r : Reach} {b0 : Nat} {v : Value} {d : DataW H} {p : List MemPlace} (hv : Value.okWide Tryz.prog W r b0 30 v) (h : DataW.Trod enc Tryz.prog W 0 sp held 30 v d p) :
    ∃ a n c a' n' c' L G, v = .agg #[.slice a n c, .slice a' n' c'] ∧ MemS W a n a' n' L G := by
  obtain ⟨cs, rfl, hsz⟩ := okWide_struct Tryz.underlying30 hv
  obtain ⟨fuel, hf⟩ := h
  obtain ⟨y0, y1, n, _, hl, h0, h1⟩ := trod_struct2 Tryz.underlying30 hf
  rw [cellsMem] at hl
  obtain ⟨l⟩ := cs
  simp only [Value.cells] at hl h0 h1
  match l, hl with
  | [v0, v1], _ =>
    simp only [cellsWS, cellsBS, List.drop, List.take] at h0 h1
    obtain ⟨a, k, c, L, e0, hL⟩ := words_in h0
    obtain ⟨a', k', c', G, e1, hG⟩ := bools_in h1
    simp at e0 e1
    subst e0 e1
    exact ⟨a, k, c, a', k', c', L, G, rfl, hL, hG⟩
end
end Go.Proofs.YtpkhnajhamnggaaGreatDoor

namespace Go.Proofs.YtpkhnajhamnggaaGreatDoor
open Go.ChangeShapes Go.WideShapes Go.ChangeAt Go.RowKit
set_option maxRecDepth 100000

theorem made_cell (z : Array Value) (n i : Nat) (h : i < n) (T : TypeId) (w : World) : (w.alloc (.cells (madeCells z n) T)).cell? ⟨w.heap.size, i, none⟩ = some z[i % z.size]! := by
  rw [World.cell?_alloc_new]
  simp [madeCells, h]
theorem made_fullW (w : World) (len : Nat) (T : TypeId) : OutW (w.alloc (.cells (madeCells #[.int .i64 0, .bool false, .int .i64 0, .int .i64 0, .int .i64 0, .int .i64 0] (len * 6)) T)) w.heap.size len len (List.replicate len wd0) := by
  have h0 := made_out w len #[.int .i64 0, .bool false, .int .i64 0, .int .i64 0, .int .i64 0, .int .i64 0] T (List.replicate len wd0)
  refine ⟨h0.lt, h0.has, h0.fr, fun j x hj hx => ?_⟩
  obtain rfl : wd0 = x := by
    rw [List.getElem?_replicate_of_lt hj] at hx
    exact Option.some.inj hx
  have c := fun i (hi : i < 6) => made_cell #[.int .i64 0, .bool false, .int .i64 0, .int .i64 0, .int .i64 0, .int .i64 0] (len * 6) (j * 6 + i) (by omega) T w
  have e : ∀ i, i < 6 → (j * 6 + i) % 6 = i := fun i hi => by omega
  refine ⟨?_, ?_, ?_, ?_, ?_, ?_⟩
  · have := c 0 (by omega); rw [show (#[Value.int .i64 0, .bool false, .int .i64 0, .int .i64 0, .int .i64 0, .int .i64 0] : Array Value).size = 6 from rfl, e 0 (by omega)] at this; exact this
  · have := c 1 (by omega); rw [show (#[Value.int .i64 0, .bool false, .int .i64 0, .int .i64 0, .int .i64 0, .int .i64 0] : Array Value).size = 6 from rfl, e 1 (by omega)] at this; exact this
  · have := c 2 (by omega); rw [show (#[Value.int .i64 0, .bool false, .int .i64 0, .int .i64 0, .int .i64 0, .int .i64 0] : Array Value).size = 6 from rfl, e 2 (by omega)] at this; exact this
  · have := c 3 (by omega); rw [show (#[Value.int .i64 0, .bool false, .int .i64 0, .int .i64 0, .int .i64 0, .int .i64 0] : Array Value).size = 6 from rfl, e 3 (by omega)] at this; exact this
  · have := c 4 (by omega); rw [show (#[Value.int .i64 0, .bool false, .int .i64 0, .int .i64 0, .int .i64 0, .int .i64 0] : Array Value).size = 6 from rfl, e 4 (by omega)] at this; exact this
  · have := c 5 (by omega); rw [show (#[Value.int .i64 0, .bool false, .int .i64 0, .int .i64 0, .int .i64 0, .int .i64 0] : Array Value).size = 6 from rfl, e 5 (by omega)] at this; exact this
theorem made_fullB (w : World) (len : Nat) (T : TypeId) : OutB (w.alloc (.cells (madeCells #[.bool false] len) T)) w.heap.size len len (List.replicate len false) := by
  have h0 := made_outB w len #[.bool false] T (List.replicate len false)
  refine ⟨h0.lt, h0.has, h0.fr, fun j x hj hx => ?_⟩
  obtain rfl : false = x := by
    rw [List.getElem?_replicate_of_lt hj] at hx
    exact Option.some.inj hx
  have := made_cell #[.bool false] len j hj T w
  rw [show (#[Value.bool false] : Array Value).size = 1 from rfl, Nat.mod_one] at this
  exact this
theorem OutW.keepB {w w' : World} {q len k b : Nat} {L : List Wd} (h : OutW w q len k L) (g : KeepBut b w w') (hb : q ≠ b) : OutW w' q len k L :=
  ⟨Nat.lt_of_lt_of_le h.lt g.size, fun i hi => by rw [g.cell (p := ⟨q, i, none⟩) h.lt hb]; exact h.has i hi, fun i hi => by rw [g.frozen (p := ⟨q, i, none⟩) h.lt hb]; exact h.fr i hi, fun j x hj hx => by
    refine WordAt.of_vs fun m v hm => ?_
    exact (g.cell (p := ⟨q, j * 6 + m, none⟩) h.lt hb).trans ((h.wd j x hj hx).vs m v hm)⟩

/-- A memory of the call's own: its two rows may be written. -/
structure OwnM (w0 : World) (q q' n n' : Nat) (L : List Wd) (G : List Bool) (w : World) : Prop where
  ws : OutW w q n n L
  gs : OutB w q' n' n' G
  lw : L.length = n
  lg : G.length = n'
  ne : q ≠ q'
  nq : w0.heap.size ≤ q
  nq' : w0.heap.size ≤ q'
  bel : Below w0.heap.size w0 w
section
variable {w0 w w' : World} {q q' n n' : Nat} {L : List Wd} {G : List Bool}
theorem OwnM.next (h : OwnM w0 q q' n n' L G w) (hb : Below w.heap.size w w') : OwnM w0 q q' n n' L G w' :=
  ⟨h.ws.below hb, h.gs.below hb, h.lw, h.lg, h.ne, h.nq, h.nq', h.bel.trans (hb.mono h.bel.size)⟩
theorem OwnM.keep {b : Nat} (h : OwnM w0 q q' n n' L G w) (k : KeepBut b w w') (h1 : q ≠ b) (h2 : q' ≠ b) (h0 : w0.heap.size ≤ b) : OwnM w0 q q' n n' L G w' :=
  ⟨h.ws.keepB k h1, h.gs.keepB k h2, h.lw, h.lg, h.ne, h.nq, h.nq', h.bel.trans (k.below h0 h.bel.size)⟩
theorem OwnM.mem (h : OwnM w0 q q' n n' L G w) (hn : n ≤ 1048576) (hn' : n' ≤ 1048576) : MemS w (some ⟨q, 0, none⟩) n (some ⟨q', 0, none⟩) n' L G :=
  ⟨h.ws.slice h.lw (by unfold maxLen; omega), h.gs.slice h.lg (by unfold maxLen; omega)⟩
end

theorem new_two (w : World) (o : Obj) (T U : TypeId) : OwnM w (w.heap.size + 1) (w.heap.size + 1 + 1) 24 24 (List.replicate 24 wd0) (List.replicate 24 false)
    (((w.alloc o).alloc (.cells (madeCells #[.int .i64 0, .bool false, .int .i64 0, .int .i64 0, .int .i64 0, .int .i64 0] 144) T)).alloc (.cells (madeCells #[.bool false] 24) U)) := by
  have e1 : (w.alloc o).heap.size = w.heap.size + 1 := World.size_alloc ..
  have h1 := made_fullW (w.alloc o) 24 T
  have e2 : ((w.alloc o).alloc (.cells (madeCells #[.int .i64 0, .bool false, .int .i64 0, .int .i64 0, .int .i64 0, .int .i64 0] (24 * 6)) T)).heap.size = w.heap.size + 1 + 1 := by rw [World.size_alloc, e1]
  have h2 := made_fullB ((w.alloc o).alloc (.cells (madeCells #[.int .i64 0, .bool false, .int .i64 0, .int .i64 0, .int .i64 0, .int .i64 0] (24 * 6)) T)) 24 U
  have b : Below w.heap.size w (((w.alloc o).alloc (.cells (madeCells #[.int .i64 0, .bool false, .int .i64 0, .int .i64 0, .int .i64 0, .int .i64 0] (24 * 6)) T)).alloc (.cells (madeCells #[.bool false] 24) U)) := (((Below.refl _ w).alloc (Nat.le_refl _) _).alloc (by rw [e1]; omega) _).alloc (by rw [e2]; omega) _
  rw [e1] at h1
  rw [e2] at h2
  exact ⟨h1.below ((Below.refl _ _).alloc (Nat.le_refl _) _), h2, by simp, by simp, by omega, by omega, by omega, b⟩
theorem new_two' (w : World) (o : Obj) (T U : TypeId) : OwnM w (w.heap.size + 1 + 1) (w.heap.size + 1) 24 24 (List.replicate 24 wd0) (List.replicate 24 false)
    (((w.alloc o).alloc (.cells (madeCells #[.bool false] 24) U)).alloc (.cells (madeCells #[.int .i64 0, .bool false, .int .i64 0, .int .i64 0, .int .i64 0, .int .i64 0] 144) T)) := by
  have e1 : (w.alloc o).heap.size = w.heap.size + 1 := World.size_alloc ..
  have h1 := made_fullB (w.alloc o) 24 U
  have e2 : ((w.alloc o).alloc (.cells (madeCells #[.bool false] 24) U)).heap.size = w.heap.size + 1 + 1 := by rw [World.size_alloc, e1]
  have h2 := made_fullW ((w.alloc o).alloc (.cells (madeCells #[.bool false] 24) U)) 24 T
  have b : Below w.heap.size w (((w.alloc o).alloc (.cells (madeCells #[.bool false] 24) U)).alloc (.cells (madeCells #[.int .i64 0, .bool false, .int .i64 0, .int .i64 0, .int .i64 0, .int .i64 0] (24 * 6)) T)) := (((Below.refl _ w).alloc (Nat.le_refl _) _).alloc (by rw [e1]; omega) _).alloc (by rw [e2]; omega) _
  rw [e1] at h1
  rw [e2] at h2
  exact ⟨h2, h1.below ((Below.refl _ _).alloc (Nat.le_refl _) _), by simp, by simp, by omega, by omega, by omega, b⟩

end Go.Proofs.YtpkhnajhamnggaaGreatDoor

namespace Go.Proofs.YtpkhnajhamnggaaGreatDoor
open Go.ChangeShapes Go.WideShapes Go.ChangeAt Go.RowKit
set_option maxRecDepth 100000

theorem allW_take {L : List Wd} {k : Nat} {x : Wd} (h : L[k]? = some x) (h0 : (L.take k).all okW = true) (h1 : okW x = true) : (L.take (k + 1)).all okW = true := by
  rw [List.take_add_one, h]; simp [h0, h1]
theorem allW_at {L : List Wd} {k : Nat} {x : Wd} (h : L[k]? = some x) (h1 : okW x = false) : L.all okW = false := by
  have hm := List.mem_of_getElem? h
  rw [← Bool.not_eq_true]
  intro ha
  have := List.all_eq_true.1 ha x hm
  rw [h1] at this
  cases this

set_option maxHeartbeats 4000000 in
theorem specMemoryOk_any (a : Option Addr) (n c : Nat) (a' : Option Addr) (n' c' : Nat) (L : List Wd) (G : List Bool) (w : World) (hM : MemS w a n a' n' L G) :
    Calls Tryz.prog 73 #[.agg #[.slice a n c, .slice a' n' c']] w fun e w' => e = .returned (.bool (mokB L G)) ∧ Below w.heap.size w w' := by
  have B0 : Hid (Below w.heap.size w (w.alloc (.cells #[.slice a n c, .slice a' n' c'] 40))) := (Below.refl _ _).alloc (Nat.le_refl _) _
  have D0 := hid_mk (Duo.new w (.slice a n c) (.slice a' n' c') 40)
  have S := hid_mk hM.ws
  have hn := hM.ws.2.1
  have hn' := hM.gs.2.1
  have hm := hM.ws.1
  have hm' := hM.gs.1
  unfold maxLen at hm hm'
  clear hM
  obtain ⟨z, Z⟩ : ∃ z, Hid (z = mokB L G) := ⟨_, rfl⟩
  rw [← Z.out]
  by_cases h1 : n = 24
  · by_cases h2 : n' = 24
    · subst h1 h2
      have ZA : Hid (z = L.all okW) := by
        rw [Z.out, mokB, hn, hn']; simp [Hid]
      clear Z
      go_enter Tryz.func73, Tryz.ntmps73
      go_wp2
      generalize w.alloc (.cells #[.slice a 24 c, .slice a' 24 c'] 40) = w1 at B0 D0
      go_loopw [3] (fun cc wr => ∃ k : Nat, k ≤ 24 ∧ cc = .int .i64 (k : Int) ∧ Hid ((L.take k).all okW = true) ∧ Hid (Duo wr w.heap.size (.slice a 24 c) (.slice a' 24 c')) ∧ Hid (Below w.heap.size w wr)) (fun cc _ => 24 - (intOf cc).toNat)
      case atStart => exact ⟨0, Nat.zero_le _, rfl, by simp [Hid], D0.out, B0.out⟩
      case round =>
        clear D0 B0
        obtain ⟨k, hk, rfl, A, D, B⟩ := hrel
        by_cases hlt : k < 24
        · obtain ⟨_, m0, m1, _, _⟩ := D.out
          obtain ⟨kb, o, x, rfl, hkb, hx, hat⟩ := (S.out.keep B.out).at hlt
          obtain ⟨d0, d1, d2, d3, d4, d5⟩ := hat
          have s2 := specWordOk_any x.n x.i x.b x.t x.p x.s
          have hO : Hid (okW x = wokB x.n x.i x.b x.t x.p x.s) := rfl
          generalize wokB x.n x.i x.b x.t x.p x.s = v at s2 hO
          have S2 := hid_mk s2
          have HX := hid_mk hx
          have zB := B.out.size
          clear hx s2
          go_wp2_with (go_at_call 72; refine (S2.out _).mono ?_; rintro e w2 ⟨rfl, hb⟩; refine Hid.out ?_)
          refine Lib.hid ?_
          have B2 : Hid (Below w.heap.size w w2) := B.out.trans (hb.mono zB)
          have D2 := hid_mk (D.out.below hb)
          clear hb d0 d1 d2 d3 d4 d5 m0 m1
          cases v
          · have hz : z = false := ZA.out.trans (allW_at HX.out hO.out)
            subst hz
            go_wp2
            go_ret
            exact ⟨rfl, B2.out⟩
          · go_wp2
            go_roundw
            case rel => exact ⟨k + 1, hlt, by go_num, allW_take HX.out A.out hO.out, D2.out, B2.out⟩
            case measure => simp [intOf]; omega
        · obtain rfl : k = 24 := by omega
          have hz : z = true := by
            have h := A.out
            rw [List.take_of_length_le (by omega)] at h
            exact ZA.out.trans h
          subst hz
          go_wp2
          go_ret
          exact ⟨rfl, B.out⟩
    · have hz : z = false := by rw [Z.out, mokB, hn']; simp [h2]
      subst hz h1
      have hcm : ((n' : Int) != 24) = true := by simp; omega
      go_enter Tryz.func73, Tryz.ntmps73
      go_wp2
      go_ret
      exact ⟨rfl, B0.out⟩
  · have hz : z = false := by rw [Z.out, mokB, hn]; simp [h1]
    subst hz
    have hcm : ((n : Int) != 24) = true := by simp; omega
    go_enter Tryz.func73, Tryz.ntmps73
    go_wp2
    go_ret
    exact ⟨rfl, B0.out⟩

/-- A memory's and a word's block, the answer's behind them; nothing that was there has turned. -/
structure Fl (w0 : World) (v0 v1 : Value) (x : Wd) (w : World) : Prop where
  m : Duo w w0.heap.size v0 v1
  x : Six w (w0.heap.size + 1) x.n x.i x.b x.t x.p x.s
  z : Six w (w0.heap.size + 1 + 1) 0 false 0 0 0 0
  bel : Below w0.heap.size w0 w
theorem Fl.new (w : World) (v0 v1 : Value) (x : Wd) : Fl w v0 v1 x (((w.alloc (.cells #[v0, v1] 40)).alloc (.cells #[.int .i64 x.n, .bool x.i, .int .i64 x.b, .int .i64 x.t, .int .i64 x.p, .int .i64 x.s] 38)).alloc (.cells #[.int .i64 0, .bool false, .int .i64 0, .int .i64 0, .int .i64 0, .int .i64 0] 38)) :=
  ⟨((Duo.new w v0 v1 _).alloc _).alloc _, (Six.second w _ x.n x.i x.b x.t x.p x.s _).alloc _, Six.third w _ _ 0 false 0 0 0 0 _, (((Below.refl _ w).alloc (Nat.le_refl _) _).alloc (by simp) _).alloc (by simp; omega) _⟩
theorem Fl.next {w0 w w' : World} {v0 v1 : Value} {x : Wd} (h : Fl w0 v0 v1 x w) (hb : Below w.heap.size w w') : Fl w0 v0 v1 x w' :=
  ⟨h.m.below hb, h.x.below hb, h.z.below hb, h.bel.trans (hb.mono h.bel.size)⟩
theorem six_done {w0 w : World} (hb : Below w0.heap.size w0 w) (r : Nat) (hr : w0.heap.size ≤ r) (v0 v1 v2 v3 v4 v5 : Value) :
    Below w0.heap.size w0 ((((((w.setCell ⟨r, 0, none⟩ v0).setCell ⟨r, 1, none⟩ v1).setCell ⟨r, 2, none⟩ v2).setCell ⟨r, 3, none⟩ v3).setCell ⟨r, 4, none⟩ v4).setCell ⟨r, 5, none⟩ v5) :=
  Below.setCell (Below.setCell (Below.setCell (Below.setCell (Below.setCell (Below.setCell hb hr _) hr _) hr _) hr _) hr _) hr _

set_option maxHeartbeats 4000000 in
theorem specFilter_any (v0 : Value) (a' : Option Addr) (n' c' : Nat) (G : List Bool) (x : Wd) (w : World) (hG : SliceB w.heap.size w a' n' G) :
    Calls Tryz.prog 100 #[.agg #[v0, .slice a' n' c'], .agg #[.int .i64 x.n, .bool x.i, .int .i64 x.b, .int .i64 x.t, .int .i64 x.p, .int .i64 x.s]] w fun e w' => e = .returned (wdV (filW G x)) ∧ Below w.heap.size w w' := by
  have F0 := hid_mk (Fl.new w v0 (.slice a' n' c') x)
  have S := hid_mk hG
  have hn' := hG.2.1
  have hm' := hG.1
  unfold maxLen at hm'
  clear hG
  obtain ⟨z, Z⟩ : ∃ z, Hid (z = filW G x) := ⟨_, rfl⟩
  rw [← Z.out]
  generalize hw1 : ((w.alloc (.cells #[v0, .slice a' n' c'] 40)).alloc (.cells #[.int .i64 x.n, .bool x.i, .int .i64 x.b, .int .i64 x.t, .int .i64 x.p, .int .i64 x.s] 38)).alloc (.cells #[.int .i64 0, .bool false, .int .i64 0, .int .i64 0, .int .i64 0, .int .i64 0] 38) = w1 at F0
  go_enter Tryz.func100, Tryz.ntmps100
  go_upto_region 1 with fail
  clear hw1
  obtain ⟨_, m0, m1, _, _⟩ := F0.out.m
  obtain ⟨_, x0, x1, x2, x3, x4, x5, _, _, _, _, _, _⟩ := F0.out.x
  obtain ⟨_, z0, z1, z2, z3, z4, z5, f0, f1, f2, f3, f4, f5⟩ := F0.out.z
  cases hi : x.i with
  | false =>
    have hz : z = x := by rw [Z.out, filW, hi]; rfl
    subst hz
    rw [hi] at x1
    clear Z
    go_wp2
    refine bodyPost_ret (v := .agg #[.int .i64 z.n, .bool false, .int .i64 z.b, .int .i64 z.t, .int .i64 z.p, .int .i64 z.s]) (by simp [results, Tryz.results100, go_sem, z0, z1, z2, z3, z4, z5]) rfl ⟨by rw [wdV, hi], ?_⟩
    exact six_done F0.out.bel _ (by omega) _ _ _ _ _ _
  | true =>
    rw [hi] at x1
    have s1 := in_any x.b 0 ((n' : Int) - 1)
    have ZG : Hid (z = bif goneB G x.b then bareW x else x) := by rw [Z.out, filW, hi]; exact hid_mk rfl
    clear Z
    by_cases hb : 0 ≤ x.b ∧ x.b ≤ (n' : Int) - 1
    · rw [decide_eq_true hb] at s1
      have S1 := hid_mk s1
      obtain ⟨k, hk⟩ : ∃ k : Nat, x.b = k := ⟨x.b.toNat, by omega⟩
      have hkn : k < n' := by omega
      obtain ⟨kb, o, g, rfl, hkb, hg, hc⟩ := (S.out.keep F0.out.bel).at hkn
      have hgo : goneB G x.b = g := by
        rw [goneB, hn', decide_eq_true hb, hk]
        simp [List.getD, hg]
      rw [hgo] at ZG
      have hb0 : 0 ≤ x.b := hb.1
      have hb1 : x.b < (n' : Int) := by omega
      have hbt : x.b.toNat = k := by omega
      clear s1 hgo hg hb hk
      cases g
      · have hz : z = x := ZG.out
        subst hz
        clear ZG
        go_wp2_with (go_at_call 74; refine (S1.out _).mono ?_; rintro e w' ⟨rfl, rfl⟩)
        go_wp2
        refine bodyPost_ret (v := .agg #[.int .i64 z.n, .bool true, .int .i64 z.b, .int .i64 z.t, .int .i64 z.p, .int .i64 z.s]) (by simp [results, Tryz.results100, go_sem, z0, z1, z2, z3, z4, z5]) rfl ⟨by rw [wdV, hi], ?_⟩
        exact six_done F0.out.bel _ (by omega) _ _ _ _ _ _
      · have hz : z = bareW x := ZG.out
        subst hz
        have s2 := specBare_any x.n true x.b x.t x.p x.s
        have S2 := hid_mk s2
        clear ZG s2
        go_wp2_with (go_at_call 74; refine (S1.out _).mono ?_; rintro e w' ⟨rfl, rfl⟩)
        go_wp2_with (go_at_call 134; refine (S2.out _).mono ?_; rintro e w3 ⟨rfl, hb3⟩; refine Hid.out ?_)
        refine Lib.hid ?_
        have F3 := hid_mk (F0.out.next hb3)
        clear hb3 m0 m1 x0 x1 x2 x3 x4 x5 z0 z1 z2 z3 z4 z5 f0 f1 f2 f3 f4 f5
        obtain ⟨_, z0, z1, z2, z3, z4, z5, f0, f1, f2, f3, f4, f5⟩ := F3.out.z
        go_wp2
        refine bodyPost_ret (v := wdV (bareW x)) (by simp [results, Tryz.results100, go_sem, z0, z1, z2, z3, z4, z5, wdV, bareW]) rfl ⟨rfl, ?_⟩
        exact six_done F3.out.bel _ (by omega) _ _ _ _ _ _
    · rw [decide_eq_false hb] at s1
      have S1 := hid_mk s1
      have hz : z = x := by rw [ZG.out, goneB, hn', decide_eq_false hb]; rfl
      subst hz
      clear ZG s1 hb
      go_wp2_with (go_at_call 74; refine (S1.out _).mono ?_; rintro e w' ⟨rfl, rfl⟩)
      go_wp2
      refine bodyPost_ret (v := .agg #[.int .i64 z.n, .bool true, .int .i64 z.b, .int .i64 z.t, .int .i64 z.p, .int .i64 z.s]) (by simp [results, Tryz.results100, go_sem, z0, z1, z2, z3, z4, z5]) rfl ⟨by rw [wdV, hi], ?_⟩
      exact six_done F0.out.bel _ (by omega) _ _ _ _ _ _
end Go.Proofs.YtpkhnajhamnggaaGreatDoor

namespace Go.Proofs.YtpkhnajhamnggaaGreatDoor
open Go.ChangeShapes Go.WideShapes Go.ChangeAt Go.RowKit
set_option maxRecDepth 100000

theorem isTrap_any (n : Int) (w : World) :
    Calls Tryz.prog 88 #[.int .i64 n] w fun e w' => e = .returned (.bool (decide (0 ≤ n ∧ n ≤ 5))) ∧ w' = w := by
  have hn : decide (0 ≤ n ∧ n ≤ 5) = (decide (0 ≤ n) && decide (n ≤ 5)) := by
    by_cases h0 : 0 ≤ n <;> by_cases h1 : n ≤ 5 <;> simp [h0, h1]
  rw [hn]
  clear hn
  by_cases h0 : 0 ≤ n <;> by_cases h1 : n ≤ 5
  all_goals
    simp only [h0, h1, decide_true, decide_false, Bool.and_false, Bool.and_true]
    go_enter Tryz.func88, Tryz.ntmps88
    go_wp2
    go_ret
    exact ⟨rfl, rfl⟩

set_option maxHeartbeats 4000000 in
theorem implWordsOk_any (a : Option Addr) (n c : Nat) (L : List Wd) (w : World) (hS : SliceW w.heap.size w a n L) :
    Calls Tryz.prog 85 #[.slice a n c] w fun e w' => e = .returned (.bool (L.all okW)) ∧ Below w.heap.size w w' := by
  have S := hid_mk hS
  have hn := hS.2.1
  have hm := hS.1
  unfold maxLen at hm
  clear hS
  obtain ⟨z, Z⟩ : ∃ z, Hid (z = L.all okW) := ⟨_, rfl⟩
  rw [← Z.out]
  go_enter Tryz.func85, Tryz.ntmps85
  go_wp2
  go_loopw [7] (fun cc wr => ∃ k : Nat, k ≤ n ∧ cc = .int .i64 (k : Int) ∧ Hid ((L.take k).all okW = true) ∧ Hid (Below w.heap.size w wr)) (fun cc _ => n - (intOf cc).toNat)
  case atStart => exact ⟨0, Nat.zero_le _, rfl, by simp [Hid], Below.refl _ _⟩
  case round =>
    obtain ⟨k, hk, rfl, A, B⟩ := hrel
    by_cases hlt : k < n
    · obtain ⟨kb, o, x, rfl, hkb, hx, hat⟩ := (S.out.keep B.out).at hlt
      obtain ⟨d0, d1, d2, d3, d4, d5⟩ := hat
      have s2 := implWordOk_any x.n x.i x.b x.t x.p x.s
      have hO : Hid (okW x = wokB x.n x.i x.b x.t x.p x.s) := rfl
      generalize wokB x.n x.i x.b x.t x.p x.s = v at s2 hO
      have S2 := hid_mk s2
      have HX := hid_mk hx
      have B1 : Hid (Below w.heap.size w (wr.alloc (.cells #[.int .i64 x.n, .bool x.i, .int .i64 x.b, .int .i64 x.t, .int .i64 x.p, .int .i64 x.s] 38))) := B.out.alloc B.out.size _
      have zB := B1.out.size
      clear hx s2
      go_wp2_with (go_at_call 86; refine (S2.out _).mono ?_; rintro e w2 ⟨rfl, hb⟩; refine Hid.out ?_)
      refine Lib.hid ?_
      have B2 : Hid (Below w.heap.size w w2) := B1.out.trans (hb.mono zB)
      clear hb d0 d1 d2 d3 d4 d5
      cases v
      · have hz : z = false := Z.out.trans (allW_at HX.out hO.out)
        subst hz
        go_wp2
        go_ret
        exact ⟨rfl, B2.out⟩
      · go_wp2
        go_roundw
        case rel => exact ⟨k + 1, hlt, by go_num, allW_take HX.out A.out hO.out, B2.out⟩
        case measure => simp [intOf]; omega
    · obtain rfl : k = n := by omega
      have hz : z = true := by
        have h := A.out
        rw [List.take_of_length_le (by omega)] at h
        exact Z.out.trans h
      subst hz
      go_wp2
      go_ret
      exact ⟨rfl, B.out⟩
end Go.Proofs.YtpkhnajhamnggaaGreatDoor

namespace Go.Proofs.YtpkhnajhamnggaaGreatDoor
open Go.ChangeShapes Go.WideShapes Go.ChangeAt Go.RowKit
set_option maxRecDepth 100000

theorem isNumber_any (n c : Int) (w : World) :
    Calls Tryz.prog 90 #[.int .i64 n, .int .i64 c] w fun e w' => e = .returned (.bool (decide (0 ≤ n ∧ n ≤ c - 1))) ∧ w' = w := by
  have hn : decide (0 ≤ n ∧ n ≤ c - 1) = (decide (0 ≤ n) && decide (n < c)) := by
    by_cases h0 : 0 ≤ n <;> by_cases h1 : n < c <;> simp [h0, h1] <;> omega
  rw [hn]
  clear hn
  by_cases h0 : 0 ≤ n <;> by_cases h1 : n < c
  all_goals
    simp only [h0, h1, decide_true, decide_false, Bool.and_false, Bool.and_true]
    go_enter Tryz.func90, Tryz.ntmps90
    go_wp2
    go_ret
    exact ⟨rfl, rfl⟩

set_option maxHeartbeats 4000000 in
theorem implMemoryOk_any (a : Option Addr) (n c : Nat) (a' : Option Addr) (n' c' : Nat) (L : List Wd) (G : List Bool) (w : World) (hM : MemS w a n a' n' L G) :
    Calls Tryz.prog 87 #[.agg #[.slice a n c, .slice a' n' c']] w fun e w' => e = .returned (.bool (mokB L G)) ∧ Below w.heap.size w w' := by
  have B0 : Hid (Below w.heap.size w (w.alloc (.cells #[.slice a n c, .slice a' n' c'] 40))) := (Below.refl _ _).alloc (Nat.le_refl _) _
  have S := hid_mk hM.ws
  have hn := hM.ws.2.1
  have hn' := hM.gs.2.1
  have hm := hM.ws.1
  have hm' := hM.gs.1
  unfold maxLen at hm hm'
  clear hM
  obtain ⟨z, Z⟩ : ∃ z, Hid (z = mokB L G) := ⟨_, rfl⟩
  rw [← Z.out]
  by_cases h1 : n = 24
  · by_cases h2 : n' = 24
    · subst h1 h2
      have ZA : Hid (z = L.all okW) := by
        rw [Z.out, mokB, hn, hn']; simp [Hid]
      clear Z
      have D0 := hid_mk (Duo.new w (.slice a 24 c) (.slice a' 24 c') 40)
      generalize hw1 : w.alloc (.cells #[.slice a 24 c, .slice a' 24 c'] 40) = w1 at B0 D0
      have s2 := implWordsOk_any a 24 c L w1 ((S.out.keep B0.out).mono B0.out.size)
      rw [← ZA.out] at s2
      have S2 := hid_mk s2
      have z1 := B0.out.size
      clear s2 ZA
      go_enter Tryz.func87, Tryz.ntmps87
      go_upto_region 1 with fail
      clear hw1
      obtain ⟨_, m0, m1, _, _⟩ := D0.out
      go_wp2_with (go_at_call 85; refine S2.out.mono ?_; rintro e w2 ⟨rfl, hb⟩; refine Hid.out ?_)
      refine Lib.hid ?_
      have B2 : Hid (Below w.heap.size w w2) := B0.out.trans (hb.mono z1)
      clear hb m0 m1 D0 S2
      cases z
      all_goals
        go_wp2
        go_ret
        exact ⟨rfl, B2.out⟩
    · have hz : z = false := by rw [Z.out, mokB, hn']; simp [h2]
      subst hz h1
      have hcm : ((n' : Int) == 24) = false := by simp; omega
      go_enter Tryz.func87, Tryz.ntmps87
      go_wp2
      go_ret
      exact ⟨rfl, B0.out⟩
  · have hz : z = false := by rw [Z.out, mokB, hn]; simp [h1]
    subst hz
    have hcm : ((n : Int) == 24) = false := by simp; omega
    go_enter Tryz.func87, Tryz.ntmps87
    go_wp2
    go_ret
    exact ⟨rfl, B0.out⟩

set_option maxHeartbeats 4000000 in
theorem implFilter_any (v0 : Value) (a' : Option Addr) (n' c' : Nat) (G : List Bool) (x : Wd) (w : World) (hG : SliceB w.heap.size w a' n' G) :
    Calls Tryz.prog 135 #[.agg #[v0, .slice a' n' c'], .agg #[.int .i64 x.n, .bool x.i, .int .i64 x.b, .int .i64 x.t, .int .i64 x.p, .int .i64 x.s]] w fun e w' => e = .returned (wdV (filW G x)) ∧ Below w.heap.size w w' := by
  have F0 := hid_mk (Fl.new w v0 (.slice a' n' c') x)
  have S := hid_mk hG
  have hn' := hG.2.1
  have hm' := hG.1
  unfold maxLen at hm'
  clear hG
  obtain ⟨z, Z⟩ : ∃ z, Hid (z = filW G x) := ⟨_, rfl⟩
  rw [← Z.out]
  generalize hw1 : ((w.alloc (.cells #[v0, .slice a' n' c'] 40)).alloc (.cells #[.int .i64 x.n, .bool x.i, .int .i64 x.b, .int .i64 x.t, .int .i64 x.p, .int .i64 x.s] 38)).alloc (.cells #[.int .i64 0, .bool false, .int .i64 0, .int .i64 0, .int .i64 0, .int .i64 0] 38) = w1 at F0
  go_enter Tryz.func135, Tryz.ntmps135
  go_upto_region 1 with fail
  clear hw1
  obtain ⟨_, m0, m1, _, _⟩ := F0.out.m
  obtain ⟨_, x0, x1, x2, x3, x4, x5, _, _, _, _, _, _⟩ := F0.out.x
  obtain ⟨_, z0, z1, z2, z3, z4, z5, f0, f1, f2, f3, f4, f5⟩ := F0.out.z
  cases hi : x.i with
  | false =>
    have hz : z = x := by rw [Z.out, filW, hi]; rfl
    subst hz
    rw [hi] at x1
    clear Z
    go_wp2
    refine bodyPost_ret (v := .agg #[.int .i64 z.n, .bool false, .int .i64 z.b, .int .i64 z.t, .int .i64 z.p, .int .i64 z.s]) (by simp [results, Tryz.results135, go_sem, z0, z1, z2, z3, z4, z5]) rfl ⟨by rw [wdV, hi], ?_⟩
    exact six_done F0.out.bel _ (by omega) _ _ _ _ _ _
  | true =>
    rw [hi] at x1
    have s1 := isNumber_any x.b (n' : Int)
    have ZG : Hid (z = bif goneB G x.b then bareW x else x) := by rw [Z.out, filW, hi]; exact hid_mk rfl
    clear Z
    by_cases hb : 0 ≤ x.b ∧ x.b ≤ (n' : Int) - 1
    · rw [decide_eq_true hb] at s1
      have S1 := hid_mk s1
      obtain ⟨k, hk⟩ : ∃ k : Nat, x.b = k := ⟨x.b.toNat, by omega⟩
      have hkn : k < n' := by omega
      obtain ⟨kb, o, g, rfl, hkb, hg, hc⟩ := (S.out.keep F0.out.bel).at hkn
      have hgo : goneB G x.b = g := by
        rw [goneB, hn', decide_eq_true hb, hk]
        simp [List.getD, hg]
      rw [hgo] at ZG
      have hb0 : 0 ≤ x.b := hb.1
      have hb1 : x.b < (n' : Int) := by omega
      have hbt : x.b.toNat = k := by omega
      clear s1 hgo hg hb hk
      cases g
      · have hz : z = x := ZG.out
        subst hz
        clear ZG
        go_wp2_with (go_at_call 90; refine (S1.out _).mono ?_; rintro e w' ⟨rfl, rfl⟩)
        go_wp2
        refine bodyPost_ret (v := .agg #[.int .i64 z.n, .bool true, .int .i64 z.b, .int .i64 z.t, .int .i64 z.p, .int .i64 z.s]) (by simp [results, Tryz.results135, go_sem, z0, z1, z2, z3, z4, z5]) rfl ⟨by rw [wdV, hi], ?_⟩
        exact six_done F0.out.bel _ (by omega) _ _ _ _ _ _
      · have hz : z = bareW x := ZG.out
        subst hz
        have s2 := implBare_any x.n true x.b x.t x.p x.s
        have S2 := hid_mk s2
        clear ZG s2
        go_wp2_with (go_at_call 90; refine (S1.out _).mono ?_; rintro e w' ⟨rfl, rfl⟩)
        go_wp2_with (go_at_call 168; refine (S2.out _).mono ?_; rintro e w3 ⟨rfl, hb3⟩; refine Hid.out ?_)
        refine Lib.hid ?_
        have F3 := hid_mk (F0.out.next hb3)
        clear hb3 m0 m1 x0 x1 x2 x3 x4 x5 z0 z1 z2 z3 z4 z5 f0 f1 f2 f3 f4 f5
        obtain ⟨_, z0, z1, z2, z3, z4, z5, f0, f1, f2, f3, f4, f5⟩ := F3.out.z
        go_wp2
        refine bodyPost_ret (v := wdV (bareW x)) (by simp [results, Tryz.results135, go_sem, z0, z1, z2, z3, z4, z5, wdV, bareW]) rfl ⟨rfl, ?_⟩
        exact six_done F3.out.bel _ (by omega) _ _ _ _ _ _
    · rw [decide_eq_false hb] at s1
      have S1 := hid_mk s1
      have hz : z = x := by rw [ZG.out, goneB, hn', decide_eq_false hb]; rfl
      subst hz
      clear ZG s1 hb
      go_wp2_with (go_at_call 90; refine (S1.out _).mono ?_; rintro e w' ⟨rfl, rfl⟩)
      go_wp2
      refine bodyPost_ret (v := .agg #[.int .i64 z.n, .bool true, .int .i64 z.b, .int .i64 z.t, .int .i64 z.p, .int .i64 z.s]) (by simp [results, Tryz.results135, go_sem, z0, z1, z2, z3, z4, z5]) rfl ⟨by rw [wdV, hi], ?_⟩
      exact six_done F0.out.bel _ (by omega) _ _ _ _ _ _
end Go.Proofs.YtpkhnajhamnggaaGreatDoor

namespace Go.Proofs.YtpkhnajhamnggaaGreatDoor
open Go.ChangeShapes Go.WideShapes Go.ChangeAt Go.RowKit

theorem and8 (p : Int) : bits .and .i64 p 8 = 0 ∨ bits .and .i64 p 8 = 8 := by
  have h5 : (BitVec.ofInt 64 8) = BitVec.twoPow 64 3 := by decide
  show IntKind.i64.wrap ((BitVec.ofInt 64 p &&& BitVec.ofInt 64 8).toNat : Nat) = 0 ∨ IntKind.i64.wrap ((BitVec.ofInt 64 p &&& BitVec.ofInt 64 8).toNat : Nat) = 8
  rw [h5, BitVec.and_twoPow]
  split
  · right; decide
  · left; decide
theorem and16 (p : Int) : bits .and .i64 p 16 = 0 ∨ bits .and .i64 p 16 = 16 := by
  have h5 : (BitVec.ofInt 64 16) = BitVec.twoPow 64 4 := by decide
  show IntKind.i64.wrap ((BitVec.ofInt 64 p &&& BitVec.ofInt 64 16).toNat : Nat) = 0 ∨ IntKind.i64.wrap ((BitVec.ofInt 64 p &&& BitVec.ofInt 64 16).toNat : Nat) = 16
  rw [h5, BitVec.and_twoPow]
  split
  · right; decide
  · left; decide
theorem and8_eq (p : Int) : (bits .and .i64 p 8 == 0) = !(bits .and .i64 p 8 == 8) := by
  rcases and8 p with h | h <;> rw [h] <;> decide
theorem and16_ne (p : Int) : (bits .and .i64 p 16 != 0) = (bits .and .i64 p 16 == 16) := by
  rcases and16 p with h | h <;> rw [h] <;> decide

/-- What Taken answers, c whether by may take. -/
def takV (c : Bool) (n : Int) (i : Bool) (b t p s : Int) : Value :=
  .agg #[.int .i64 (bif c then n else n % 65536), .bool (bif c then i else false), .int .i64 (bif c then b else 0), .int .i64 (bif c then t else 0), .int .i64 (bif c then p else 0), .int .i64 (bif c then s else 0)]

/-- Two words' blocks, the answer's behind them; nothing that was there has turned. -/
structure Th (w0 : World) (n' : Int) (i' : Bool) (b' t' p' s' n : Int) (i : Bool) (b t p s : Int) (w : World) : Prop where
  a : Six w w0.heap.size n' i' b' t' p' s'
  y : Six w (w0.heap.size + 1) n i b t p s
  z : Six w (w0.heap.size + 1 + 1) 0 false 0 0 0 0
  k : Below w0.heap.size w0 w
theorem Th.next {w0 w w' : World} {n' : Int} {i' : Bool} {b' t' p' s' n : Int} {i : Bool} {b t p s : Int} (h : Th w0 n' i' b' t' p' s' n i b t p s w) (hb : Below w.heap.size w w') : Th w0 n' i' b' t' p' s' n i b t p s w' :=
  ⟨h.a.below hb, h.y.below hb, h.z.below hb, h.k.trans (hb.mono h.k.size)⟩
theorem Th.new (w : World) (n' : Int) (i' : Bool) (b' t' p' s' n : Int) (i : Bool) (b t p s : Int) : Th w n' i' b' t' p' s' n i b t p s (((w.alloc (.cells #[.int .i64 n', .bool i', .int .i64 b', .int .i64 t', .int .i64 p', .int .i64 s'] 38)).alloc (.cells #[.int .i64 n, .bool i, .int .i64 b, .int .i64 t, .int .i64 p, .int .i64 s] 38)).alloc (.cells #[.int .i64 0, .bool false, .int .i64 0, .int .i64 0, .int .i64 0, .int .i64 0] 38)) :=
  ⟨((Six.new w n' i' b' t' p' s' _).alloc _).alloc _, (Six.second w _ n i b t p s _).alloc _, Six.third w _ _ 0 false 0 0 0 0 _, (((Below.refl _ w).alloc (Nat.le_refl _) _).alloc (by simp) _).alloc (by simp; omega) _⟩

set_option maxRecDepth 100000 in
set_option maxHeartbeats 2000000 in
theorem specTaken_any (n' : Int) (i' : Bool) (b' t' p' s' : Int) (n : Int) (i : Bool) (b t p s : Int) (w : World) :
    Calls Tryz.prog 119 #[.agg #[.int .i64 n', .bool i', .int .i64 b', .int .i64 t', .int .i64 p', .int .i64 s'], .agg #[.int .i64 n, .bool i, .int .i64 b, .int .i64 t, .int .i64 p, .int .i64 s]] w fun e w' => e = .returned (takV (bits .and .i64 p' 8 == 8) n i b t p s) ∧ Below w.heap.size w w' := by
  have s1 := specBare_any n i b t p s
  have he := and8_eq p'
  unfold takV
  generalize (bits .and .i64 p' 8 == 8) = c at he ⊢
  obtain ⟨m, hm⟩ : ∃ m, Hid (m = n % 65536) := ⟨_, rfl⟩
  rw [← hm.out] at s1 ⊢
  clear hm
  have S1 : Hid _ := s1
  clear s1
  go_enter Tryz.func119, Tryz.ntmps119
  go_upto_region 1 with fail
  have M0 : Hid _ := Th.new w n' i' b' t' p' s' n i b t p s
  generalize (((w.alloc (.cells #[.int .i64 n', .bool i', .int .i64 b', .int .i64 t', .int .i64 p', .int .i64 s'] 38)).alloc (.cells #[.int .i64 n, .bool i, .int .i64 b, .int .i64 t, .int .i64 p, .int .i64 s] 38)).alloc (.cells #[.int .i64 0, .bool false, .int .i64 0, .int .i64 0, .int .i64 0, .int .i64 0] 38)) = W0 at M0 ⊢
  obtain ⟨_, c0, c1, c2, c3, c4, c5, _, _, _, _, _, _⟩ := M0.out.a
  have M1 := M0
  obtain ⟨_, d0, d1, d2, d3, d4, d5, _, _, _, _, _, _⟩ := M1.out.y
  obtain ⟨_, y0, y1, y2, y3, y4, y5, g0, g1, g2, g3, g4, g5⟩ := M1.out.z
  cases c
  · go_wp2_with fail
    refine (S1.out _).mono ?_
    rintro e w2 ⟨rfl, hb2⟩
    have M2 : Hid _ := M1.out.next hb2
    clear hb2 d0 d1 d2 d3 d4 d5 y0 y1 y2 y3 y4 y5 g0 g1 g2 g3 g4 g5
    obtain ⟨_, y0, y1, y2, y3, y4, y5, g0, g1, g2, g3, g4, g5⟩ := M2.out.z
    go_wp2
    refine bodyPost_ret (v := .agg #[.int .i64 m, .bool false, .int .i64 0, .int .i64 0, .int .i64 0, .int .i64 0]) (by simp [results, Tryz.results119, go_sem, y0, y1, y2, y3, y4, y5]) rfl ⟨rfl, ?_⟩
    repeat' (first | (with_reducible exact M2.out.k) | (with_reducible apply Below.drew) | (refine Below.setCell ?_ (by show w.heap.size ≤ _; dsimp only; omega) _))
  · go_wp2
    refine bodyPost_ret (v := .agg #[.int .i64 n, .bool i, .int .i64 b, .int .i64 t, .int .i64 p, .int .i64 s]) (by simp [results, Tryz.results119, go_sem, y0, y1, y2, y3, y4, y5]) rfl ⟨rfl, ?_⟩
    repeat' (first | (with_reducible exact M1.out.k) | (with_reducible apply Below.drew) | (refine Below.setCell ?_ (by show w.heap.size ≤ _; dsimp only; omega) _))

set_option maxRecDepth 100000 in
set_option maxHeartbeats 2000000 in
theorem implTaken_any (n' : Int) (i' : Bool) (b' t' p' s' : Int) (n : Int) (i : Bool) (b t p s : Int) (w : World) :
    Calls Tryz.prog 150 #[.agg #[.int .i64 n', .bool i', .int .i64 b', .int .i64 t', .int .i64 p', .int .i64 s'], .agg #[.int .i64 n, .bool i, .int .i64 b, .int .i64 t, .int .i64 p, .int .i64 s]] w fun e w' => e = .returned (takV (bits .and .i64 p' 8 == 8) n i b t p s) ∧ Below w.heap.size w w' := by
  have s1 := implBare_any n i b t p s
  have s2 := has_any b' t' p' s' 8
  unfold takV
  generalize (bits .and .i64 p' 8 == 8) = c at s2 ⊢
  obtain ⟨m, hm⟩ : ∃ m, Hid (m = n % 65536) := ⟨_, rfl⟩
  rw [← hm.out] at s1 ⊢
  clear hm
  have S1 : Hid _ := s1
  clear s1
  have S2 : Hid _ := s2
  clear s2
  go_enter Tryz.func150, Tryz.ntmps150
  go_upto_region 1 with fail
  have M0 : Hid _ := Th.new w n' i' b' t' p' s' n i b t p s
  generalize (((w.alloc (.cells #[.int .i64 n', .bool i', .int .i64 b', .int .i64 t', .int .i64 p', .int .i64 s'] 38)).alloc (.cells #[.int .i64 n, .bool i, .int .i64 b, .int .i64 t, .int .i64 p, .int .i64 s] 38)).alloc (.cells #[.int .i64 0, .bool false, .int .i64 0, .int .i64 0, .int .i64 0, .int .i64 0] 38)) = W0 at M0 ⊢
  obtain ⟨_, c0, c1, c2, c3, c4, c5, _, _, _, _, _, _⟩ := M0.out.a
  go_wp2_with fail
  refine (S2.out _).mono ?_
  rintro e w1 ⟨rfl, hb1⟩
  have M1 : Hid _ := M0.out.next hb1
  clear hb1 c0 c1 c2 c3 c4 c5
  obtain ⟨_, d0, d1, d2, d3, d4, d5, _, _, _, _, _, _⟩ := M1.out.y
  obtain ⟨_, y0, y1, y2, y3, y4, y5, g0, g1, g2, g3, g4, g5⟩ := M1.out.z
  cases c
  · go_wp2_with fail
    refine (S1.out _).mono ?_
    rintro e w2 ⟨rfl, hb2⟩
    have M2 : Hid _ := M1.out.next hb2
    clear hb2 d0 d1 d2 d3 d4 d5 y0 y1 y2 y3 y4 y5 g0 g1 g2 g3 g4 g5
    obtain ⟨_, y0, y1, y2, y3, y4, y5, g0, g1, g2, g3, g4, g5⟩ := M2.out.z
    go_wp2
    refine bodyPost_ret (v := .agg #[.int .i64 m, .bool false, .int .i64 0, .int .i64 0, .int .i64 0, .int .i64 0]) (by simp [results, Tryz.results150, go_sem, y0, y1, y2, y3, y4, y5]) rfl ⟨rfl, ?_⟩
    repeat' (first | (with_reducible exact M2.out.k) | (with_reducible apply Below.drew) | (refine Below.setCell ?_ (by show w.heap.size ≤ _; dsimp only; omega) _))
  · go_wp2
    refine bodyPost_ret (v := .agg #[.int .i64 n, .bool i, .int .i64 b, .int .i64 t, .int .i64 p, .int .i64 s]) (by simp [results, Tryz.results150, go_sem, y0, y1, y2, y3, y4, y5]) rfl ⟨rfl, ?_⟩
    repeat' (first | (with_reducible exact M1.out.k) | (with_reducible apply Below.drew) | (refine Below.setCell ?_ (by show w.heap.size ≤ _; dsimp only; omega) _))

/-- What MayPut answers. -/
def putB (p' : Int) (i : Bool) : Bool := !i || (bits .and .i64 p' 16 == 16)

set_option maxHeartbeats 2000000 in
theorem specMayPut_any (n' : Int) (i' : Bool) (b' t' p' s' : Int) (n : Int) (i : Bool) (b t p s : Int) (w : World) :
    Calls Tryz.prog 120 #[.agg #[.int .i64 n', .bool i', .int .i64 b', .int .i64 t', .int .i64 p', .int .i64 s'], .agg #[.int .i64 n, .bool i, .int .i64 b, .int .i64 t, .int .i64 p, .int .i64 s]] w fun e w' => e = .returned (.bool (putB p' i)) ∧ Below w.heap.size w w' := by
  unfold putB
  rw [← and16_ne]
  have K : Hid (Below w.heap.size w ((w.alloc (.cells #[.int .i64 n', .bool i', .int .i64 b', .int .i64 t', .int .i64 p', .int .i64 s'] 38)).alloc (.cells #[.int .i64 n, .bool i, .int .i64 b, .int .i64 t, .int .i64 p, .int .i64 s] 38))) := ((Below.refl _ w).alloc (Nat.le_refl _) _).alloc (by simp) _
  cases i
  all_goals
    go_enter Tryz.func120, Tryz.ntmps120
    go_wp2
    go_ret
    exact ⟨rfl, K.out⟩

set_option maxHeartbeats 2000000 in
theorem implMayPut_any (n' : Int) (i' : Bool) (b' t' p' s' : Int) (n : Int) (i : Bool) (b t p s : Int) (w : World) :
    Calls Tryz.prog 151 #[.agg #[.int .i64 n', .bool i', .int .i64 b', .int .i64 t', .int .i64 p', .int .i64 s'], .agg #[.int .i64 n, .bool i, .int .i64 b, .int .i64 t, .int .i64 p, .int .i64 s]] w fun e w' => e = .returned (.bool (putB p' i)) ∧ Below w.heap.size w w' := by
  have s2 := has_any b' t' p' s' 16
  unfold putB
  generalize (bits .and .i64 p' 16 == 16) = c at s2 ⊢
  have S2 : Hid _ := s2
  clear s2
  have K : Hid (Below w.heap.size w ((w.alloc (.cells #[.int .i64 n', .bool i', .int .i64 b', .int .i64 t', .int .i64 p', .int .i64 s'] 38)).alloc (.cells #[.int .i64 n, .bool i, .int .i64 b, .int .i64 t, .int .i64 p, .int .i64 s] 38))) := ((Below.refl _ w).alloc (Nat.le_refl _) _).alloc (by simp) _
  cases i
  · go_enter Tryz.func151, Tryz.ntmps151
    go_wp2
    go_ret
    exact ⟨rfl, K.out⟩
  · go_enter Tryz.func151, Tryz.ntmps151
    go_wp2_with fail
    refine (S2.out _).mono ?_
    rintro e w1 ⟨rfl, hb1⟩
    go_wp2
    go_ret
    exact ⟨rfl, K.out.trans (hb1.mono K.out.size)⟩
end Go.Proofs.YtpkhnajhamnggaaGreatDoor

namespace Go.Proofs.YtpkhnajhamnggaaGreatDoor
open Go.ChangeShapes Go.WideShapes Go.ChangeAt Go.RowKit

/-- A word that is right and a key. -/
def rkB (n : Int) (i : Bool) (b t p s : Int) : Bool := wokB n i b t p s && i
/-- .. and not sealed. -/
def openB (n : Int) (i : Bool) (b t p s : Int) : Bool := rkB n i b t p s && (s == 0)
/-- .. and that may seal. -/
def mayB (n : Int) (i : Bool) (b t p s : Int) : Bool :=
  openB n i b t p s && ((bits .and .i64 p 32 == 32) && (decide (b ≤ n ∧ n < t) && decide (1 ≤ n ∧ n ≤ 7)))

theorem and32 (p : Int) : bits .and .i64 p 32 = 0 ∨ bits .and .i64 p 32 = 32 := by
  have h5 : (BitVec.ofInt 64 32) = BitVec.twoPow 64 5 := by decide
  show IntKind.i64.wrap ((BitVec.ofInt 64 p &&& BitVec.ofInt 64 32).toNat : Nat) = 0 ∨ IntKind.i64.wrap ((BitVec.ofInt 64 p &&& BitVec.ofInt 64 32).toNat : Nat) = 32
  rw [h5, BitVec.and_twoPow]
  split
  · right; decide
  · left; decide
theorem and32_ne (p : Int) : (bits .and .i64 p 32 != 0) = (bits .and .i64 p 32 == 32) := by
  rcases and32 p with h | h <;> rw [h] <;> decide

set_option maxHeartbeats 400000 in
theorem sealed_any (b t p s : Int) (w : World) :
    Calls Tryz.prog 171 #[.agg #[.int .i64 b, .int .i64 t, .int .i64 p, .int .i64 s]] w fun e w' => e = .returned (.bool (s != 0)) ∧ Below w.heap.size w w' := by
  go_enter Tryz.func171, Tryz.ntmps171
  go_wp2
  go_ret
  exact ⟨rfl, (Below.refl _ _).alloc (Nat.le_refl _) _⟩

set_option maxHeartbeats 400000 in
theorem opens_any (b t p s x : Int) (w : World) :
    Calls Tryz.prog 173 #[.agg #[.int .i64 b, .int .i64 t, .int .i64 p, .int .i64 s], .int .i64 x] w fun e w' => e = .returned (.bool (decide (b ≤ x ∧ x < t))) ∧ Below w.heap.size w w' := by
  by_cases h0 : b ≤ x <;> by_cases h1 : x < t
  all_goals
    go_enter Tryz.func173, Tryz.ntmps173
    go_wp2
    go_ret
    exact ⟨by simp [h0, h1], (Below.refl _ _).alloc (Nat.le_refl _) _⟩

set_option maxHeartbeats 1000000 in
theorem rightKey_any (n : Int) (i : Bool) (b t p s : Int) (w : World) :
    Calls Tryz.prog 170 #[.agg #[.int .i64 n, .bool i, .int .i64 b, .int .i64 t, .int .i64 p, .int .i64 s]] w fun e w' => e = .returned (.bool (rkB n i b t p s)) ∧ Below w.heap.size w w' := by
  have s1 := implWordOk_any n i b t p s
  unfold rkB
  generalize wokB n i b t p s = x at s1 ⊢
  have S1 : Hid _ := s1
  clear s1
  go_enter Tryz.func170, Tryz.ntmps170
  go_wp2_with fail
  refine (S1.out _).mono ?_
  rintro e w1 ⟨rfl, hb1⟩
  have A1 := (Six.new w n i b t p s 38).below hb1
  have K1 : Hid (Below w.heap.size w w1) := ((Below.refl _ w).alloc (Nat.le_refl _) _).trans (hb1.mono (by simp))
  obtain ⟨_, c0, c1, c2, c3, c4, c5, _, _, _, _, _, _⟩ := A1
  clear hb1 S1
  cases x <;> cases i
  all_goals
    go_wp2
    go_ret
    exact ⟨rfl, K1.out⟩

set_option maxHeartbeats 1000000 in
theorem l4Open_any (n : Int) (i : Bool) (b t p s : Int) (w : World) :
    Calls Tryz.prog 121 #[.agg #[.int .i64 n, .bool i, .int .i64 b, .int .i64 t, .int .i64 p, .int .i64 s]] w fun e w' => e = .returned (.bool (openB n i b t p s)) ∧ Below w.heap.size w w' := by
  have s1 := specWordOk_any n i b t p s
  unfold openB rkB
  generalize wokB n i b t p s = x at s1 ⊢
  have S1 : Hid _ := s1
  clear s1
  go_enter Tryz.func121, Tryz.ntmps121
  go_wp2_with fail
  refine (S1.out _).mono ?_
  rintro e w1 ⟨rfl, hb1⟩
  have A1 := (Six.new w n i b t p s 38).below hb1
  have K1 : Hid (Below w.heap.size w w1) := ((Below.refl _ w).alloc (Nat.le_refl _) _).trans (hb1.mono (by simp))
  obtain ⟨_, c0, c1, c2, c3, c4, c5, _, _, _, _, _, _⟩ := A1
  clear hb1 S1
  cases x <;> cases i
  all_goals
    go_wp2
    go_ret
    exact ⟨rfl, K1.out⟩

set_option maxRecDepth 100000 in
set_option maxHeartbeats 2000000 in
theorem l4Sealer_any (n : Int) (i : Bool) (b t p s : Int) (w : World) :
    Calls Tryz.prog 147 #[.agg #[.int .i64 n, .bool i, .int .i64 b, .int .i64 t, .int .i64 p, .int .i64 s]] w fun e w' => e = .returned (.bool (mayB n i b t p s)) ∧ Below w.heap.size w w' := by
  have s1 := l4Open_any n i b t p s
  have s2 := in_any n 1 7
  have hz : decide (b ≤ n ∧ n < t) = (decide (b ≤ n) && decide (n < t)) := by simp
  unfold mayB
  rw [← and32_ne, hz]
  clear hz
  generalize openB n i b t p s = x at s1 ⊢
  generalize decide (1 ≤ n ∧ n ≤ 7) = y at s2 ⊢
  obtain ⟨q, hq⟩ : ∃ q, Hid (q = (bits .and .i64 p 32 != 0)) := ⟨_, rfl⟩
  rw [← hq.out]
  have S1 : Hid _ := s1
  have S2 : Hid _ := s2
  clear s1 s2
  go_enter Tryz.func147, Tryz.ntmps147
  go_wp2_with fail
  refine (S1.out _).mono ?_
  rintro e w1 ⟨rfl, hb1⟩
  have A1 := (Six.new w n i b t p s 38).below hb1
  have K1 : Hid (Below w.heap.size w w1) := ((Below.refl _ w).alloc (Nat.le_refl _) _).trans (hb1.mono (by simp))
  obtain ⟨_, c0, c1, c2, c3, c4, c5, _, _, _, _, _, _⟩ := A1
  clear hb1 S1
  cases x
  · clear hq
    go_wp2
    go_ret
    exact ⟨rfl, K1.out⟩
  have hq' := hq.out
  cases q
  · have hq2 : (bits .and .i64 p 32 != 0) = false := hq'.symm
    clear hq hq'
    go_wp2
    go_ret
    exact ⟨rfl, K1.out⟩
  have hq2 : (bits .and .i64 p 32 != 0) = true := hq'.symm
  clear hq hq'
  by_cases h0 : b ≤ n
  · by_cases h1 : n < t
    · go_wp2_with fail
      refine (S2.out _).mono ?_
      rintro e w2 ⟨rfl, rfl⟩
      go_wp2
      go_ret
      exact ⟨by simp [h0, h1], K1.out⟩
    · go_wp2
      go_ret
      exact ⟨by simp; intros; omega, K1.out⟩
  · go_wp2
    go_ret
    exact ⟨by simp; intros; omega, K1.out⟩

set_option maxRecDepth 100000 in
set_option maxHeartbeats 2000000 in
theorem maySeal_any (n : Int) (i : Bool) (b t p s : Int) (w : World) :
    Calls Tryz.prog 197 #[.agg #[.int .i64 n, .bool i, .int .i64 b, .int .i64 t, .int .i64 p, .int .i64 s]] w fun e w' => e = .returned (.bool (mayB n i b t p s)) ∧ Below w.heap.size w w' := by
  have s1 := rightKey_any n i b t p s
  have s2 := sealed_any b t p s
  have s3 := has_any b t p s 32
  have s4 := opens_any b t p s n
  have hy : decide (1 ≤ n ∧ n ≤ 7) = (decide (1 ≤ n) && decide (n ≤ 7)) := by simp
  have hs : (s == 0) = !(s != 0) := by cases h : s == 0 <;> simp [bne, h]
  unfold mayB openB
  rw [hy, hs]
  clear hy hs
  generalize rkB n i b t p s = x at s1 ⊢
  generalize (s != 0) = y at s2 ⊢
  generalize (bits .and .i64 p 32 == 32) = z at s3 ⊢
  generalize decide (b ≤ n ∧ n < t) = v at s4 ⊢
  have S1 : Hid _ := s1
  have S2 : Hid _ := s2
  have S3 : Hid _ := s3
  have S4 : Hid _ := s4
  clear s1 s2 s3 s4
  go_enter Tryz.func197, Tryz.ntmps197
  go_wp2_with fail
  refine (S1.out _).mono ?_
  rintro e w1 ⟨rfl, hb1⟩
  have A1 : Hid _ := (Six.new w n i b t p s 38).below hb1
  have K1 : Hid (Below w.heap.size w w1) := ((Below.refl _ w).alloc (Nat.le_refl _) _).trans (hb1.mono (by simp))
  clear hb1 S1
  cases x
  · go_wp2
    go_ret
    exact ⟨rfl, K1.out⟩
  obtain ⟨_, c0, c1, c2, c3, c4, c5, _, _, _, _, _, _⟩ := A1.out
  go_wp2_with fail
  refine (S2.out _).mono ?_
  rintro e w2 ⟨rfl, hb2⟩
  have A2 : Hid _ := A1.out.below hb2
  have K2 : Hid (Below w.heap.size w w2) := K1.out.trans (hb2.mono K1.out.size)
  clear hb2 A1 K1 S2 c0 c1 c2 c3 c4 c5
  cases y
  case true =>
    go_wp2
    go_ret
    exact ⟨rfl, K2.out⟩
  obtain ⟨_, c0, c1, c2, c3, c4, c5, _, _, _, _, _, _⟩ := A2.out
  go_wp2_with fail
  refine (S3.out _).mono ?_
  rintro e w3 ⟨rfl, hb3⟩
  have A3 : Hid _ := A2.out.below hb3
  have K3 : Hid (Below w.heap.size w w3) := K2.out.trans (hb3.mono K2.out.size)
  clear hb3 A2 K2 S3 c0 c1 c2 c3 c4 c5
  cases z
  · go_wp2
    go_ret
    exact ⟨rfl, K3.out⟩
  obtain ⟨_, c0, c1, c2, c3, c4, c5, _, _, _, _, _, _⟩ := A3.out
  go_wp2_with fail
  refine (S4.out _).mono ?_
  rintro e w4 ⟨rfl, hb4⟩
  have A4 : Hid _ := A3.out.below hb4
  have K4 : Hid (Below w.heap.size w w4) := K3.out.trans (hb4.mono K3.out.size)
  clear hb4 A3 K3 S4 c0 c1 c2 c3 c4 c5
  cases v
  · go_wp2
    go_ret
    exact ⟨rfl, K4.out⟩
  obtain ⟨_, c0, c1, c2, c3, c4, c5, _, _, _, _, _, _⟩ := A4.out
  cases d0 : decide (1 ≤ n) <;> cases d1 : decide (n ≤ 7)
  all_goals
    go_wp2
    go_ret
    exact ⟨by simp [d0, d1], K4.out⟩
end Go.Proofs.YtpkhnajhamnggaaGreatDoor

namespace Go.Proofs.YtpkhnajhamnggaaGreatDoor
open Go.ChangeShapes Go.WideShapes Go.ChangeAt Go.RowKit

/-- What Try answers, by the four questions in their order. -/
def trapZ (c0 c1 c2 c3 : Bool) : Int := bif c0 then (bif c1 then 2 else bif c2 then (bif c3 then 0 else 4) else 3) else 1
/-- What Try answers. -/
def tryZ (n : Int) (i : Bool) (b t p s m q : Int) : Int := trapZ (rkB n i b t p s) (s != 0) (bits .and .i64 p q == q) (decide (b ≤ m ∧ m < t))

set_option maxRecDepth 100000 in
set_option maxHeartbeats 2000000 in
theorem specTry_any (n : Int) (i : Bool) (b t p s m q : Int) (w : World) :
    Calls Tryz.prog 76 #[.agg #[.int .i64 n, .bool i, .int .i64 b, .int .i64 t, .int .i64 p, .int .i64 s], .int .i64 m, .int .i64 q] w fun e w' => e = .returned (.int .i64 (tryZ n i b t p s m q)) ∧ Below w.heap.size w w' := by
  have s1 := specWordOk_any n i b t p s
  unfold tryZ rkB
  generalize wokB n i b t p s = x at s1 ⊢
  have S1 : Hid _ := s1
  clear s1
  go_enter Tryz.func76, Tryz.ntmps76
  go_wp2_with fail
  refine (S1.out _).mono ?_
  rintro e w1 ⟨rfl, hb1⟩
  have A1 := (Six.new w n i b t p s 38).below hb1
  have K1 : Hid (Below w.heap.size w w1) := ((Below.refl _ w).alloc (Nat.le_refl _) _).trans (hb1.mono (by simp))
  obtain ⟨_, c0, c1, c2, c3, c4, c5, _, _, _, _, _, _⟩ := A1
  clear hb1 S1
  cases x
  · go_wp2
    go_ret
    exact ⟨rfl, K1.out⟩
  cases i
  · go_wp2
    go_ret
    exact ⟨rfl, K1.out⟩
  by_cases hs : s = 0
  case neg =>
    have h1 : (s != 0) = true := by simp [hs]
    go_wp2
    go_ret
    exact ⟨by simp [trapZ, h1], K1.out⟩
  subst hs
  by_cases hp : bits .and .i64 p q = q
  case neg =>
    have h2 : (bits .and .i64 p q == q) = false := by simp [hp]
    go_wp2
    go_ret
    exact ⟨by simp [trapZ, h2], K1.out⟩
  have h2 : (bits .and .i64 p q == q) = true := by simp [hp]
  by_cases h3 : m < b
  · have h4 : decide (b ≤ m ∧ m < t) = false := by simp; omega
    go_wp2
    go_ret
    exact ⟨by simp [trapZ, h2, h4], K1.out⟩
  by_cases h5 : t ≤ m
  · have h4 : decide (b ≤ m ∧ m < t) = false := by simp; omega
    go_wp2
    go_ret
    exact ⟨by simp [trapZ, h2, h4], K1.out⟩
  · have h4 : decide (b ≤ m ∧ m < t) = true := by simp; omega
    go_wp2
    go_ret
    exact ⟨by simp [trapZ, h2, h4], K1.out⟩
end Go.Proofs.YtpkhnajhamnggaaGreatDoor

namespace Go.Proofs.YtpkhnajhamnggaaGreatDoor
set_option maxRecDepth 100000

/-- What Taken answers. -/
def takW (y x : Wd) : Wd := bif (bits .and .i64 y.p 8 == 8) then x else bareW x
theorem takW_V (y x : Wd) : takV (bits .and .i64 y.p 8 == 8) x.n x.i x.b x.t x.p x.s = wdV (takW y x) := by
  unfold takV takW
  cases (bits .and .i64 y.p 8 == 8) <;> rfl
/-- The trap of a read. -/
def rdZ (L : List Wd) (y : Wd) (n : Int) : Int :=
  bif tryZ y.n y.i y.b y.t y.p y.s n 1 == 0 then (bif inB n L.length then 0 else 4) else tryZ y.n y.i y.b y.t y.p y.s n 1
/-- What is read. -/
def rdW (L : List Wd) (G : List Bool) (y : Wd) (n : Int) : Wd := bif rdZ L y n == 0 then filW G (takW y (L.getD n.toNat wd0)) else wd0
/-- The trap of a write. -/
def wrZ (L : List Wd) (y : Wd) (n : Int) (x : Wd) : Int :=
  bif tryZ y.n y.i y.b y.t y.p y.s n 2 == 0 then (bif inB n L.length then (bif putB y.p x.i then 0 else 3) else 4) else tryZ y.n y.i y.b y.t y.p y.s n 2
/-- The words behind a write. -/
def wrL (L : List Wd) (G : List Bool) (y : Wd) (n : Int) (x : Wd) : List Wd := bif mokB L G then (bif wrZ L y n x == 0 then L.set n.toNat x else L) else []
end Go.Proofs.YtpkhnajhamnggaaGreatDoor

namespace Go.Proofs.YtpkhnajhamnggaaGreatDoor
set_option maxRecDepth 100000

theorem bare_bare (x : Wd) : bareW (bareW x) = bareW x := by simp [bareW]
theorem fil_bare (G : List Bool) (x : Wd) : filW G (bareW x) = bareW x := by simp [filW, bareW]
theorem fil_or (G : List Bool) (x : Wd) : filW G x = x ∨ filW G x = bareW x := by
  unfold filW
  cases (x.i && goneB G x.b)
  · exact .inl rfl
  · exact .inr rfl
theorem fil_fil (G : List Bool) (x : Wd) : filW G (filW G x) = filW G x := by
  cases h : (x.i && goneB G x.b) with
  | false =>
    have e : filW G x = x := by unfold filW; rw [h]; rfl
    rw [e, e]
  | true =>
    have e : filW G x = bareW x := by unfold filW; rw [h]; rfl
    rw [e, fil_bare]
theorem tak_fil (G : List Bool) (y x : Wd) : filW G (takW y (filW G x)) = filW G (takW y x) := by
  unfold takW
  cases (bits .and .i64 y.p 8 == 8) with
  | true => exact fil_fil G x
  | false =>
    show filW G (bareW (filW G x)) = filW G (bareW x)
    rcases fil_or G x with e | e
    · rw [e]
    · rw [e, bare_bare]
theorem bare_ok (x : Wd) : okW (bareW x) = true := plain_ok x.n
theorem fil_ok {G : List Bool} {x : Wd} (h : okW x = true) : okW (filW G x) = true := by
  rcases fil_or G x with e | e
  · rw [e]; exact h
  · rw [e]; exact bare_ok x
theorem mok_mk {L : List Wd} {G : List Bool} (h0 : L.length = 24) (h1 : G.length = 24) (h2 : ∀ x ∈ L, okW x = true) : mokB L G = true := by
  unfold mokB
  simp only [Bool.and_eq_true, decide_eq_true_eq]
  exact ⟨⟨h0, h1⟩, List.all_eq_true.2 h2⟩
theorem set_ok {L : List Wd} {G : List Bool} (h : mokB L G = true) (k : Nat) {x : Wd} (hx : okW x = true) : mokB (L.set k x) G = true := by
  obtain ⟨h0, h1, h2⟩ := mok_parts h
  refine mok_mk (by rw [List.length_set]; exact h0) h1 fun y hy => ?_
  rcases List.mem_or_eq_of_mem_set hy with hy | rfl
  · exact h2 y hy
  · exact hx
theorem swp_len {L : List Wd} {G : List Bool} (h : mokB L G = true) (n : Int) : (swpL L G n).length = L.length := by
  unfold swpL
  rw [h]
  cases inB n 24 <;> simp
theorem swp_ok {L : List Wd} {G : List Bool} (h : mokB L G = true) (n : Int) : mokB (swpL L G n) G = true := by
  unfold swpL
  rw [h]
  cases hn : inB n 24 with
  | false => exact h
  | true =>
    obtain ⟨h0, h1, h2⟩ := mok_parts h
    refine set_ok h _ (fil_ok ?_)
    simp only [inB, decide_eq_true_eq] at hn
    have hl : n.toNat < L.length := by omega
    rw [List.getD_eq_getElem?_getD, List.getElem?_eq_getElem hl]
    exact h2 _ (List.getElem_mem hl)
/-- What is read is the same, swept or not. -/
theorem swp_read {L : List Wd} {G : List Bool} (h : mokB L G = true) (n : Int) (y : Wd) (i : Int) : rdZ (swpL L G n) y i = rdZ L y i ∧ rdW (swpL L G n) G y i = rdW L G y i := by
  have hz : rdZ (swpL L G n) y i = rdZ L y i := by unfold rdZ; rw [swp_len h]
  refine ⟨hz, ?_⟩
  unfold rdW
  rw [hz]
  cases rdZ L y i == 0 with
  | false => rfl
  | true =>
    show filW G (takW y ((swpL L G n).getD i.toNat wd0)) = filW G (takW y (L.getD i.toNat wd0))
    obtain ⟨h0, h1, h2⟩ := mok_parts h
    unfold swpL
    rw [h]
    cases hn : inB n 24 with
    | false => rfl
    | true =>
      show filW G (takW y ((L.set n.toNat (filW G (L.getD n.toNat wd0))).getD i.toNat wd0)) = _
      simp only [inB, decide_eq_true_eq] at hn
      have hl : n.toNat < L.length := by omega
      by_cases hi : n.toNat = i.toNat
      · rw [← hi, List.getD_eq_getElem?_getD, List.getElem?_set_self hl]
        exact tak_fil G y _
      · rw [List.getD_eq_getElem?_getD, List.getElem?_set_ne hi, ← List.getD_eq_getElem?_getD]
end Go.Proofs.YtpkhnajhamnggaaGreatDoor

namespace Go.Proofs.YtpkhnajhamnggaaGreatDoor
open Go.ChangeShapes Go.WideShapes Go.ChangeAt Go.RowKit
set_option maxRecDepth 100000

theorem Fl.drew {w0 w : World} {v0 v1 : Value} {x : Wd} (h : Fl w0 v0 v1 x w) : Fl w0 v0 v1 x w.drew := h.next (Below.refl _ _).drew

set_option maxHeartbeats 8000000 in
theorem specRead_any (a : Option Addr) (n c : Nat) (a' : Option Addr) (n' c' : Nat) (L : List Wd) (G : List Bool) (y : Wd) (m : Int) (w : World) (hM : MemS w a n a' n' L G) :
    Calls Tryz.prog 78 #[.agg #[.slice a n c, .slice a' n' c'], .agg #[.int .i64 y.n, .bool y.i, .int .i64 y.b, .int .i64 y.t, .int .i64 y.p, .int .i64 y.s], .int .i64 m] w fun e w' => e = .returned (.tuple #[wdV (rdW L G y m), .int .i64 (rdZ L y m)]) ∧ Below w.heap.size w w' := by
  have F0 := hid_mk (Fl.new w (.slice a n c) (.slice a' n' c') y)
  have SW := hid_mk hM.ws
  have SG := hid_mk hM.gs
  have hn := hM.ws.2.1
  have hm := hM.ws.1
  unfold maxLen at hm
  clear hM
  have s1 := specTry_any y.n y.i y.b y.t y.p y.s m 1
  obtain ⟨z, Z⟩ : ∃ z, Hid (z = rdZ L y m) := ⟨_, rfl⟩
  obtain ⟨x, X⟩ : ∃ x, Hid (x = rdW L G y m) := ⟨_, rfl⟩
  rw [← Z.out, ← X.out]
  have XZ : Hid (x = bif z == 0 then filW G (takW y (L.getD m.toNat wd0)) else wd0) := by rw [X.out, Z.out]; exact hid_mk rfl
  have ZT : Hid (z = bif tryZ y.n y.i y.b y.t y.p y.s m 1 == 0 then (bif inB m n then 0 else 4) else tryZ y.n y.i y.b y.t y.p y.s m 1) := by rw [Z.out, rdZ, hn]; exact hid_mk rfl
  generalize tryZ y.n y.i y.b y.t y.p y.s m 1 = t at s1 ZT
  have S1 := hid_mk s1
  clear s1 X Z
  generalize hw1 : ((w.alloc (.cells #[.slice a n c, .slice a' n' c'] 40)).alloc (.cells #[.int .i64 y.n, .bool y.i, .int .i64 y.b, .int .i64 y.t, .int .i64 y.p, .int .i64 y.s] 38)).alloc (.cells #[.int .i64 0, .bool false, .int .i64 0, .int .i64 0, .int .i64 0, .int .i64 0] 38) = w1 at F0
  go_enter Tryz.func78, Tryz.ntmps78
  go_upto_region 1 with fail
  clear hw1
  obtain ⟨_, x0, x1, x2, x3, x4, x5, _, _, _, _, _, _⟩ := F0.out.x
  go_wp2_with (go_at_call 76; refine (S1.out _).mono ?_; rintro e w2 ⟨rfl, hb2⟩; refine Hid.out ?_)
  refine Lib.hid ?_
  have F2 := hid_mk (F0.out.next hb2)
  clear hb2 x0 x1 x2 x3 x4 x5 F0 S1
  obtain ⟨_, m0, m1, _, _⟩ := F2.out.m
  obtain ⟨_, z0, z1, z2, z3, z4, z5, f0, f1, f2, f3, f4, f5⟩ := F2.out.z
  by_cases ht : t = 0
  · subst ht
    have s2 := in_any m 0 ((n : Int) - 1)
    by_cases hi : 0 ≤ m ∧ m ≤ (n : Int) - 1
    · have hz : z = 0 := by rw [ZT.out, inB, decide_eq_true hi]; rfl
      subst hz
      have XX : Hid (x = filW G (takW y (L.getD m.toNat wd0))) := XZ.out
      rw [decide_eq_true hi] at s2
      have S2 := hid_mk s2
      obtain ⟨hi0, hi1⟩ := hi
      have hi2 : m < (n : Int) := by omega
      obtain ⟨k, hk⟩ : ∃ k : Nat, m.toNat = k := ⟨_, rfl⟩
      have hkn : k < n := by omega
      obtain ⟨kb, o, u, rfl, hkb, hu, hat⟩ := (SW.out.keep F2.out.bel).at hkn
      have hgu : L.getD m.toNat wd0 = u := by rw [hk]; simp [List.getD, hu]
      rw [hgu] at XX
      have s3 := specTaken_any y.n y.i y.b y.t y.p y.s u.n u.i u.b u.t u.p u.s
      rw [takW_V] at s3
      generalize takW y u = g at s3 XX
      have s4 := fun w hG => specFilter_any (.slice (some ⟨kb, o, none⟩) n c) a' n' c' G g w hG
      rw [← XX.out] at s4
      simp only [wdV] at s3 s4
      have S3 := hid_mk s3
      have S4 := hid_mk s4
      clear s2 s3 s4 hgu hu XZ ZT
      obtain ⟨d0, d1, d2, d3, d4, d5⟩ := hat
      obtain ⟨_, x0, x1, x2, x3, x4, x5, _, _, _, _, _, _⟩ := F2.out.x
      go_upto_region 6 with (go_at_call 74; refine (S2.out _).mono ?_; rintro e w' ⟨rfl, rfl⟩)
      have F3 := hid_mk F2.out.drew
      go_region_with (first
        | (go_at_call 119; refine (S3.out _).mono ?_; rintro e w5 ⟨rfl, hb5⟩; have F5 := hid_mk (F3.out.next hb5); clear hb5 m0 m1 z0 z1 z2 z3 z4 z5 f0 f1 f2 f3 f4 f5; obtain ⟨_, m0, m1, _, _⟩ := F5.out.m; obtain ⟨_, z0, z1, z2, z3, z4, z5, f0, f1, f2, f3, f4, f5⟩ := F5.out.z)
        | (go_at_call 100; refine (S4.out _ ((SG.out.keep F5.out.bel).mono F5.out.bel.size)).mono ?_; rintro e w6 ⟨rfl, hb6⟩; have F6 := hid_mk (F5.out.next hb6); clear hb6 m0 m1 z0 z1 z2 z3 z4 z5 f0 f1 f2 f3 f4 f5; obtain ⟨_, m0, m1, _, _⟩ := F6.out.m; obtain ⟨_, z0, z1, z2, z3, z4, z5, f0, f1, f2, f3, f4, f5⟩ := F6.out.z))
      all_goals
        go_wp2
        refine bodyPost_ret (v := .tuple #[wdV x, .int .i64 0]) (by simp [results, Tryz.results78, go_sem, z0, z1, z2, z3, z4, z5, wdV]) rfl ⟨rfl, ?_⟩
        exact six_done F6.out.bel _ (by omega) _ _ _ _ _ _
    · have hz : z = 4 := by rw [ZT.out, inB, decide_eq_false hi]; rfl
      subst hz
      have hx : x = wd0 := XZ.out
      subst hx
      rw [decide_eq_false hi] at s2
      have S2 := hid_mk s2
      clear s2 hi XZ ZT
      go_wp2_with (go_at_call 74; refine (S2.out _).mono ?_; rintro e w' ⟨rfl, rfl⟩)
      go_wp2
      refine bodyPost_ret (v := .tuple #[wdV wd0, .int .i64 4]) (by simp [results, Tryz.results78, go_sem, z0, z1, z2, z3, z4, z5, wdV, wd0]) rfl ⟨rfl, ?_⟩
      exact six_done F2.out.bel _ (by omega) _ _ _ _ _ _
  · have htb : (t == 0) = false := by simpa using ht
    have hz : z = t := by rw [ZT.out, htb]; rfl
    subst hz
    have hx : x = wd0 := by rw [XZ.out, htb]; rfl
    subst hx
    have htn : (z != 0) = true := by simpa using ht
    clear XZ ZT
    go_wp2
    refine bodyPost_ret (v := .tuple #[wdV wd0, .int .i64 z]) (by simp [results, Tryz.results78, go_sem, z0, z1, z2, z3, z4, z5, wdV, wd0]) rfl ⟨rfl, ?_⟩
    exact six_done F2.out.bel _ (by omega) _ _ _ _ _ _
end Go.Proofs.YtpkhnajhamnggaaGreatDoor
