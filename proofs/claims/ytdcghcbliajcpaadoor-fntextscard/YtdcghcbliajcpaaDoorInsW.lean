/- A list of places that is appended to while a cursor is moved: what is kept. -/
import Derived.Test.YtdcghcbliajcpaaDoorDrawI2
import Derived.Test.YtdcghcbliajcpaaDoorInsL
import Derived.Laws.AppendOwn
namespace Go.Proofs.YtdcghcbliajcpaaDoor
open Go.ChangeShapes Go.WideShapes Go.ChangeAt Go.RowKit

theorem KeepBut.grownI {q : Nat} {w w' : World} (k : KeepBut q w w') : w.grownBy w' (some q) := ⟨k.os, k.tape, k.output, k.size, fun j hj hne => k.block j hj (fun h => hne (by rw [h]))⟩
theorem grown_belowI {w w' : World} {row : Option Nat} {B : Nat} (g : w.grownBy w' row) (hB : B ≤ w.heap.size) (hr : ∀ k, row = some k → B ≤ k) : Below B w w' :=
  ⟨g.os, g.tape, g.output, g.size, fun k hk => g.block k (by omega) (fun h => by have := hr k h.symm; omega)⟩
theorem owns_neI {w : World} {base : Nat} {e : TypeId} {size : Nat} {v : Value} {n : Nat} {xs : List Value} (h : w.ownsRow base e size v n xs) {q : Nat} (hq : q < base) : v.ownBlock = none ∨ v.ownBlock ≠ some q := by
  cases hv : v.ownBlock with
  | none => exact .inl rfl
  | some k => exact .inr (fun he => by have := (h.lt k hv).1; have := Option.some.inj he; omega)

theorem flat_getI : ∀ {L : List In} {j m : Nat} {x : In} {u : Value}, L[j]? = some x → x.vs[m]? = some u → (L.flatMap In.vs)[j * 5 + m]? = some u
  | [], j, m, x, u, h, _ => by simp at h
  | y :: L, 0, m, x, u, h, hm => by
    simp at h
    subst h
    have h6 : m < y.vs.length := (List.getElem?_eq_some_iff.1 hm).1
    rw [List.flatMap_cons, Nat.zero_mul, Nat.zero_add, List.getElem?_append_left h6]
    exact hm
  | y :: L, j + 1, m, x, u, h, hm => by
    have ih := flat_getI (L := L) (j := j) (by simpa using h) hm
    have hl : y.vs.length = 5 := rfl
    rw [List.flatMap_cons, List.getElem?_append_right (by rw [hl]; omega), hl, show (j + 1) * 5 + m - 5 = j * 5 + m by omega]
    exact ih
theorem flat_lenI : ∀ L : List In, (L.flatMap In.vs).length = L.length * 5
  | [] => rfl
  | y :: L => by
    have hl : y.vs.length = 5 := rfl
    rw [List.flatMap_cons, List.length_append, hl, flat_lenI L, List.length_cons]
    omega
theorem flat_one (L : List In) : ∀ u ∈ L.flatMap In.vs, u.oneCell' = true := by
  intro u hu
  obtain ⟨x, _, hx⟩ := List.mem_flatMap.1 hu
  simp only [In.vs, List.mem_cons, List.not_mem_nil, or_false] at hx
  rcases hx with rfl | rfl | rfl | rfl | rfl <;> rfl
theorem new_cells (vs : List Value) (T : TypeId) (w : World) (j : Nat) (u : Value) (h : vs[j]? = some u) : (w.alloc (.cells vs.toArray T)).cell? ((⟨w.heap.size, 0, none⟩ : Addr).add j) = some u := by
  rw [Go.WideShapes.add_plain, Nat.zero_add, World.cell?_alloc_new]
  simpa using h

/-- What a value that owns the cells of L is. -/
theorem owns_sliceI {w : World} {base : Nat} {v : Value} {L : List In} (h : w.ownsRow base 25 5 v L.length (L.flatMap In.vs)) :
    ∃ ad cap, v = .slice ad L.length cap ∧ SliceI w.heap.size w ad L.length L := by
  rcases h.2 with ⟨rfl, h0⟩ | ⟨g, cap, cur, rfl, hb, hg, hn, hm, hs, ht⟩
  · exact ⟨none, 0, by rw [h0], by rw [h0]; unfold maxLen; omega, rfl, .inl h0⟩
  · refine ⟨some ⟨g, 0, none⟩, cap, rfl, by omega, rfl, .inr ⟨g, 0, rfl, (Array.getElem?_eq_some_iff.1 hg).1, fun j x hj => InsAt.of_vs fun m u hm => ?_⟩⟩
    have hc := h.cells (g := g) rfl (j * 5 + m) u (flat_getI hj hm)
    rw [Go.WideShapes.add_plain] at hc
    rw [Nat.zero_add]
    rw [Nat.zero_add] at hc
    exact hc

/-- The list that is being drawn: v owns the places L, in memory that is new since w0; the cursor is in q. -/
structure LstI (w0 : World) (B q : Nat) (ad : Option Addr) (len cap : Nat) (v : Value) (L : List In) (w : World) : Prop where
  own : w.ownsRow w0.heap.size 25 5 v L.length (L.flatMap In.vs)
  d : Drawn B q w ad len cap
  kb : KeepBut q w0 w
  lq : q < w0.heap.size
section
variable {w0 w w' : World} {B q : Nat} {ad : Option Addr} {len cap : Nat} {v : Value} {L : List In}
theorem LstI.moved (h : LstI w0 B q ad len cap v L w) (d : Drawn B q w' ad len cap) (k : KeepBut q w w') : LstI w0 B q ad len cap v L w' :=
  ⟨h.own.kept k.grownI (owns_neI h.own h.lq), d, h.kb.trans k, h.lq⟩
theorem LstI.alloc (h : LstI w0 B q ad len cap v L w) (o : Obj) : LstI w0 B q ad len cap v L (w.alloc o) := ⟨h.own.alloc o, h.d.alloc o, h.kb.alloc o, h.lq⟩
theorem KeepBut.lowI {a : World} (k : KeepBut q a w) (hb : Below a.heap.size w w') : KeepBut q a w' :=
  ⟨hb.os.trans k.os, hb.tape.trans k.tape, hb.output.trans k.output, Nat.le_trans k.size hb.size, fun j hj hne => (hb.block j hj).trans (k.block j hj hne)⟩
theorem LstI.appended {w1 : World} {v' : Value} {X : List In} (h : LstI w0 B q ad len cap v L w1) (o : w'.ownsRow w0.heap.size 25 5 v' (L.length + X.length) (L.flatMap In.vs ++ X.flatMap In.vs)) (g : w1.grownBy w' v.ownBlock) : LstI w0 B q ad len cap v' (L ++ X) w' := by
  have hb : Below w0.heap.size w1 w' := grown_belowI g h.kb.size (fun k hk => (h.own.lt k hk).1)
  have hz : (L ++ X).flatMap In.vs = L.flatMap In.vs ++ X.flatMap In.vs := by simp
  refine ⟨?_, ⟨h.d.code.keep (hb.mono (Nat.le_of_lt (Nat.lt_of_le_of_lt h.d.hq h.lq))), h.d.hq, Nat.lt_of_lt_of_le h.d.lt hb.size, h.d.cur.keep (hb.block q h.lq)⟩, h.kb.lowI hb, h.lq⟩
  rw [hz, List.length_append]
  exact o
end
theorem LstI.new {w : World} {B q : Nat} {ad : Option Addr} {len cap : Nat} (d : Drawn B q w ad len cap) : LstI w B q ad len cap (.slice (some ⟨w.heap.size, 0, none⟩) 0 0) [] (w.alloc (.cells #[] 25)) :=
  ⟨World.ownsRow_made w #[] 0 (Nat.le_refl _) (Nat.zero_le _) rfl, d.alloc _, (KeepBut.refl _ _).alloc _, d.lt⟩
end Go.Proofs.YtdcghcbliajcpaaDoor
