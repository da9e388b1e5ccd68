/- Slices of words; Unders of the program at all words and lists. No condition. -/
import Derived.Test.YtneohabkoighcaaGreatWordK
namespace Go.Proofs.YtneohabkoighcaaGreat
open Go.ChangeShapes Go.WideShapes Go.ChangeAt Go.RowKit

/-- A word. -/
structure Wd where
  n : Int
  i : Bool
  b : Int
  t : Int
  p : Int
  s : Int

/-- A word lies in block k from cell o on. -/
structure WordAt (w : World) (k o : Nat) (x : Wd) : Prop where
  c0 : w.cell? ⟨k, o, none⟩ = some (.int .i64 x.n)
  c1 : w.cell? ⟨k, o + 1, none⟩ = some (.bool x.i)
  c2 : w.cell? ⟨k, o + 2, none⟩ = some (.int .i64 x.b)
  c3 : w.cell? ⟨k, o + 3, none⟩ = some (.int .i64 x.t)
  c4 : w.cell? ⟨k, o + 4, none⟩ = some (.int .i64 x.p)
  c5 : w.cell? ⟨k, o + 5, none⟩ = some (.int .i64 x.s)
theorem WordAt.keep {B : Nat} {w w' : World} {k o : Nat} {x : Wd} (h : WordAt w k o x) (hb : Below B w w') (hk : k < B) : WordAt w' k o x :=
  ⟨(hb.cell (p := ⟨k, o, none⟩) hk).trans h.c0, (hb.cell (p := ⟨k, o + 1, none⟩) hk).trans h.c1, (hb.cell (p := ⟨k, o + 2, none⟩) hk).trans h.c2, (hb.cell (p := ⟨k, o + 3, none⟩) hk).trans h.c3, (hb.cell (p := ⟨k, o + 4, none⟩) hk).trans h.c4, (hb.cell (p := ⟨k, o + 5, none⟩) hk).trans h.c5⟩

/-- A slice of the words L, in a block below B. -/
def SliceW (B : Nat) (w : World) (a : Option Addr) (len : Nat) (L : List Wd) : Prop :=
  len ≤ maxLen ∧ L.length = len ∧ (len = 0 ∨ ∃ k o, a = some ⟨k, o, none⟩ ∧ k < B ∧ ∀ j x, L[j]? = some x → WordAt w k (o + j * 6) x)
theorem SliceW.keep {B : Nat} {w w' : World} {a : Option Addr} {len : Nat} {L : List Wd} (h : SliceW B w a len L) (hb : Below B w w') : SliceW B w' a len L := by
  refine ⟨h.1, h.2.1, ?_⟩
  rcases h.2.2 with h0 | ⟨k, o, ha, hk, hc⟩
  · exact .inl h0
  · exact .inr ⟨k, o, ha, hk, fun j x hj => (hc j x hj).keep hb hk⟩
theorem SliceW.mono {B C : Nat} {w : World} {a : Option Addr} {len : Nat} {L : List Wd} (h : SliceW B w a len L) (hB : B ≤ C) : SliceW C w a len L := by
  refine ⟨h.1, h.2.1, ?_⟩
  rcases h.2.2 with h0 | ⟨k, o, ha, hk, hc⟩
  · exact .inl h0
  · exact .inr ⟨k, o, ha, by omega, hc⟩
theorem SliceW.below {B : Nat} {w w' : World} {a : Option Addr} {len : Nat} {L : List Wd} (h : SliceW B w a len L) (hb : Below w.heap.size w w') (hB : B ≤ w.heap.size) : SliceW B w' a len L := h.keep (hb.mono hB)
theorem SliceW.at {B : Nat} {w : World} {a : Option Addr} {len : Nat} {L : List Wd} (h : SliceW B w a len L) {j : Nat} (hj : j < len) :
    ∃ k o x, a = some ⟨k, o, none⟩ ∧ k < B ∧ L[j]? = some x ∧ WordAt w k (o + j * 6) x := by
  rcases h.2.2 with h0 | ⟨k, o, ha, hk, hc⟩
  · omega
  · have hl : j < L.length := by rw [h.2.1]; exact hj
    exact ⟨k, o, L[j], ha, hk, List.getElem?_eq_getElem hl, hc j _ (List.getElem?_eq_getElem hl)⟩

/-- A word of the list and the word that is asked for, beside what was there at first. -/
structure Pair (w0 w : World) (k o : Nat) (x : Wd) (r : Nat) (n : Int) (i : Bool) (b t p s : Int) : Prop where
  wd : WordAt w k o x
  six : Six w r n i b t p s
  bel : Below w0.heap.size w0 w
  lt : k < w.heap.size
section
variable {w0 w w' : World} {k o : Nat} {x : Wd} {r : Nat} {n : Int} {i : Bool} {b t p s : Int}
theorem Pair.next (h : Pair w0 w k o x r n i b t p s) (hb : Below w.heap.size w w') : Pair w0 w' k o x r n i b t p s :=
  ⟨h.wd.keep hb h.lt, h.six.below hb, h.bel.trans (hb.mono h.bel.size), Nat.lt_of_lt_of_le h.lt hb.size⟩
theorem Pair.drew (h : Pair w0 w k o x r n i b t p s) : Pair w0 w.drew k o x r n i b t p s := h.next ((Below.refl _ _).drew)
theorem Pair.all (h : Pair w0 w k o x r n i b t p s) (hi : x.i = true) :
    w.cell? ⟨k, o + 1, none⟩ = some (.bool true) ∧ w.cell? ⟨k, o + 2, none⟩ = some (.int .i64 x.b) ∧ w.cell? ⟨k, o + 3, none⟩ = some (.int .i64 x.t) ∧ w.cell? ⟨k, o + 4, none⟩ = some (.int .i64 x.p) ∧ w.cell? ⟨k, o + 5, none⟩ = some (.int .i64 x.s) ∧
    w.cell? ⟨r, 2, none⟩ = some (.int .i64 b) ∧ w.cell? ⟨r, 3, none⟩ = some (.int .i64 t) ∧ w.cell? ⟨r, 4, none⟩ = some (.int .i64 p) ∧ w.cell? ⟨r, 5, none⟩ = some (.int .i64 s) :=
  ⟨h.wd.c1.trans (by rw [hi]), h.wd.c2, h.wd.c3, h.wd.c4, h.wd.c5, h.six.c2, h.six.c3, h.six.c4, h.six.c5⟩
end

/-- What Unders asks of one word of the list. -/
def ovB (b t p s : Int) (y : Wd) : Bool := y.i && covB y.b y.t y.p y.s b t p s
/-- What Unders answers. -/
def undB (i : Bool) (b t p s : Int) (L : List Wd) : Bool := !i || L.any (ovB b t p s)

theorem any_take {α : Type} (f : α → Bool) {L : List α} {k : Nat} {x : α} (h : L[k]? = some x) (h0 : (L.take k).any f = false) (h1 : f x = false) : (L.take (k + 1)).any f = false := by
  rw [List.take_add_one, h]; simp [h0, h1]
theorem any_at {α : Type} (f : α → Bool) {L : List α} {k : Nat} {x : α} (h : L[k]? = some x) (h1 : f x = true) : L.any f = true :=
  List.any_eq_true.2 ⟨x, List.mem_of_getElem? h, h1⟩
theorem any_all {α : Type} (f : α → Bool) {L : List α} {k : Nat} (h : L.length ≤ k) (h0 : (L.take k).any f = false) : L.any f = false := by
  rwa [List.take_of_length_le h] at h0

end Go.Proofs.YtneohabkoighcaaGreat
