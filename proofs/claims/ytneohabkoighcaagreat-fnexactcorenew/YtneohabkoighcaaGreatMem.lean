/- Memories as values: what MemoryOk, Filter, Drop and Sweep answer, as lists. No condition. -/
import Derived.Test.YtneohabkoighcaaGreatOwnW
import Derived.Test.YtneohabkoighcaaGreatWordX
namespace Go.Proofs.YtneohabkoighcaaGreat
open Go.ChangeShapes Go.WideShapes Go.ChangeAt Go.RowKit
set_option maxRecDepth 100000

/-- A word as a value. -/
def wdV (x : Wd) : Value := .agg #[.int .i64 x.n, .bool x.i, .int .i64 x.b, .int .i64 x.t, .int .i64 x.p, .int .i64 x.s]
def wd0 : Wd := ⟨0, false, 0, 0, 0, 0⟩
/-- Whether a word is right. -/
def okW (x : Wd) : Bool := wokB x.n x.i x.b x.t x.p x.s
/-- What MemoryOk answers. -/
def mokB (L : List Wd) (G : List Bool) : Bool := decide (L.length = 24) && decide (G.length = 24) && L.all okW
/-- A bare word. -/
def bareW (x : Wd) : Wd := ⟨x.n % 65536, false, 0, 0, 0, 0⟩
/-- Whether what begins at b is gone. -/
def goneB (G : List Bool) (b : Int) : Bool := decide (0 ≤ b ∧ b ≤ (G.length : Int) - 1) && G.getD b.toNat false
/-- What Filter answers. -/
def filW (G : List Bool) (x : Wd) : Wd := bif x.i && goneB G x.b then bareW x else x
/-- Whether there is a word at n. -/
def inB (n : Int) (len : Nat) : Bool := decide (0 ≤ n ∧ n ≤ (len : Int) - 1)
def keepG (L : List Wd) (G : List Bool) : List Bool := bif mokB L G then G else []
/-- What is gone behind Drop. -/
def dropG (L : List Wd) (G : List Bool) (n : Int) : List Bool := bif mokB L G then (bif inB n 24 then G.set n.toNat true else G) else []
def keepL (L : List Wd) (G : List Bool) : List Wd := bif mokB L G then L else []
/-- The words behind Sweep. -/
def swpL (L : List Wd) (G : List Bool) (n : Int) : List Wd := bif mokB L G then (bif inB n 24 then L.set n.toNat (filW G (L.getD n.toNat wd0)) else L) else []
theorem mok_parts {L : List Wd} {G : List Bool} (h : mokB L G = true) : L.length = 24 ∧ G.length = 24 ∧ ∀ x ∈ L, okW x = true := by
  unfold mokB at h
  simp only [Bool.and_eq_true, decide_eq_true_eq] at h
  exact ⟨h.1.1, h.1.2, List.all_eq_true.1 h.2⟩

/-- A memory: two slices. -/
structure MemS (w : World) (a : Option Addr) (n : Nat) (a' : Option Addr) (n' : Nat) (L : List Wd) (G : List Bool) : Prop where
  ws : SliceW w.heap.size w a n L
  gs : SliceB w.heap.size w a' n' G
theorem MemS.below {w w' : World} {a a' : Option Addr} {n n' : Nat} {L : List Wd} {G : List Bool} (h : MemS w a n a' n' L G) (hb : Below w.heap.size w w') : MemS w' a n a' n' L G :=
  ⟨(h.ws.keep hb).mono hb.size, (h.gs.keep hb).mono hb.size⟩
theorem MemS.to {w0 w w' : World} {a a' : Option Addr} {n n' : Nat} {L : List Wd} {G : List Bool} (h : MemS w a n a' n' L G) (hb : Below w.heap.size w w') (_ : Below w0.heap.size w0 w) : MemS w' a n a' n' L G := h.below hb

/-- Two cells of a block, which may be written. -/
structure Duo (w : World) (r : Nat) (v0 v1 : Value) : Prop where
  lt : r < w.heap.size
  c0 : w.cell? ⟨r, 0, none⟩ = some v0
  c1 : w.cell? ⟨r, 1, none⟩ = some v1
  f0 : w.frozen? ⟨r, 0, none⟩ = false
  f1 : w.frozen? ⟨r, 1, none⟩ = false
section
variable {w w' : World} {r q : Nat} {v0 v1 : Value}
theorem Duo.keep (h : Duo w r v0 v1) (k : KeepBut q w w') (hq : r ≠ q) : Duo w' r v0 v1 :=
  ⟨Nat.lt_of_lt_of_le h.lt k.size, (k.cell (p := ⟨r, 0, none⟩) h.lt hq).trans h.c0, (k.cell (p := ⟨r, 1, none⟩) h.lt hq).trans h.c1, (k.frozen (p := ⟨r, 0, none⟩) h.lt hq).trans h.f0, (k.frozen (p := ⟨r, 1, none⟩) h.lt hq).trans h.f1⟩
theorem Duo.below (h : Duo w r v0 v1) (k : Below w.heap.size w w') : Duo w' r v0 v1 := h.keep (q := w.heap.size) (KeepBut.ofBelow k) (Nat.ne_of_lt h.lt)
theorem Duo.alloc (h : Duo w r v0 v1) (o : Obj) : Duo (w.alloc o) r v0 v1 := h.keep (q := w.heap.size) ((KeepBut.refl _ _).alloc o) (Nat.ne_of_lt h.lt)
theorem Duo.drew (h : Duo w r v0 v1) : Duo w.drew r v0 v1 := h.below ((Below.refl _ _).drew)
theorem Duo.other (h : Duo w r v0 v1) {r' : Nat} (hr : r ≠ r') (o : Nat) (u : Value) : Duo (w.setCell ⟨r', o, none⟩ u) r v0 v1 := h.keep (q := r') ((KeepBut.refl _ _).setCell o u) hr
theorem Duo.set0 (h : Duo w r v0 v1) (u : Value) : Duo (w.setCell ⟨r, 0, none⟩ u) r u v1 := by
  obtain ⟨l, c0, c1, f0, f1⟩ := h
  exact ⟨Nat.lt_of_lt_of_le l ((Below.refl 0 w).setCell (p := ⟨r, 0, none⟩) (Nat.zero_le _) _).size, by go_simp, by go_simp, by go_simp, by go_simp⟩
theorem Duo.set1 (h : Duo w r v0 v1) (u : Value) : Duo (w.setCell ⟨r, 1, none⟩ u) r v0 u := by
  obtain ⟨l, c0, c1, f0, f1⟩ := h
  exact ⟨Nat.lt_of_lt_of_le l ((Below.refl 0 w).setCell (p := ⟨r, 1, none⟩) (Nat.zero_le _) _).size, by go_simp, by go_simp, by go_simp, by go_simp⟩
end
theorem Duo.new (w : World) (v0 v1 : Value) (T : TypeId) : Duo (w.alloc (.cells #[v0, v1] T)) w.heap.size v0 v1 :=
  ⟨by simp, by simp, by simp, by simp, by simp⟩
end Go.Proofs.YtneohabkoighcaaGreat
