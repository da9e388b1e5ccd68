/- A list of words that is appended to while a cursor is moved: what is kept. -/
import Derived.Test.YtejpeikfibaapaaWordM
import Derived.Test.YtejpeikfibaapaaDrawW3
import Derived.Laws.AppendOwn
namespace Go.Proofs.Ytejpeikfibaapaa
open Go.ChangeShapes Go.WideShapes Go.ChangeAt Go.RowKit

theorem Below.frozenLow {B : Nat} {w w' : World} (hb : Below B w w') {p : Addr} (hp : p.block < B) : w'.frozen? p = w.frozen? p := World.frozen?_of_block (hb.block p.block hp)
theorem Six.low {B : Nat} {w w' : World} {r : Nat} {n : Int} {i : Bool} {b t p s : Int} (h : Six w r n i b t p s) (hb : Below B w w') (hr : r < B) : Six w' r n i b t p s :=
  ⟨Nat.lt_of_lt_of_le h.lt hb.size, (hb.cell (p := ⟨r, 0, none⟩) hr).trans h.c0, (hb.cell (p := ⟨r, 1, none⟩) hr).trans h.c1, (hb.cell (p := ⟨r, 2, none⟩) hr).trans h.c2, (hb.cell (p := ⟨r, 3, none⟩) hr).trans h.c3, (hb.cell (p := ⟨r, 4, none⟩) hr).trans h.c4, (hb.cell (p := ⟨r, 5, none⟩) hr).trans h.c5,
    (Below.frozenLow hb (p := ⟨r, 0, none⟩) hr).trans h.f0, (Below.frozenLow hb (p := ⟨r, 1, none⟩) hr).trans h.f1, (Below.frozenLow hb (p := ⟨r, 2, none⟩) hr).trans h.f2, (Below.frozenLow hb (p := ⟨r, 3, none⟩) hr).trans h.f3, (Below.frozenLow hb (p := ⟨r, 4, none⟩) hr).trans h.f4, (Below.frozenLow hb (p := ⟨r, 5, none⟩) hr).trans h.f5⟩
theorem Drawn.low {B q : Nat} {w w' : World} {a : Option Addr} {len cap : Nat} (d : Drawn B q w a len cap) (hb : Below (q + 1) w w') : Drawn B q w' a len cap :=
  ⟨d.code.keep (hb.mono (by have := d.hq; omega)), d.hq, Nat.lt_of_lt_of_le d.lt hb.size, d.cur.keep (hb.block q (Nat.lt_succ_self q))⟩
theorem KeepBut.grown {q : Nat} {w w' : World} (k : KeepBut q w w') : w.grownBy w' (some q) := ⟨k.os, k.tape, k.output, k.size, fun j hj hne => k.block j hj (fun h => hne (by rw [h]))⟩
theorem grown_below {w w' : World} {row : Option Nat} {B : Nat} (g : w.grownBy w' row) (hB : B ≤ w.heap.size) (hr : ∀ k, row = some k → B ≤ k) : Below B w w' :=
  ⟨g.os, g.tape, g.output, g.size, fun k hk => g.block k (by omega) (fun h => by have := hr k h.symm; omega)⟩
theorem grown_set (w : World) (r o : Nat) (v : Value) : w.grownBy (w.setCell ⟨r, o, none⟩ v) (some r) := ((KeepBut.refl r w).setCell o v).grown
theorem owns_ne {w : World} {base : Nat} {e : TypeId} {size : Nat} {v : Value} {n : Nat} {xs : List Value} (h : w.ownsRow base e size v n xs) {q : Nat} (hq : q < base) : v.ownBlock = none ∨ v.ownBlock ≠ some q := by
  cases hv : v.ownBlock with
  | none => exact .inl rfl
  | some k => exact .inr (fun he => by have := (h.lt k hv).1; have := Option.some.inj he; omega)

theorem flat_get : ∀ {L : List Wd} {j m : Nat} {x : Wd} {u : Value}, L[j]? = some x → x.vs[m]? = some u → (L.flatMap Wd.vs)[j * 6 + m]? = some u
  | [], j, m, x, u, h, _ => by simp at h
  | y :: L, 0, m, x, u, h, hm => by
    simp at h
    subst h
    have h6 : m < y.vs.length := (List.getElem?_eq_some_iff.1 hm).1
    rw [List.flatMap_cons, Nat.zero_mul, Nat.zero_add, List.getElem?_append_left h6]
    exact hm
  | y :: L, j + 1, m, x, u, h, hm => by
    have ih := flat_get (L := L) (j := j) (by simpa using h) hm
    have hl : y.vs.length = 6 := rfl
    rw [List.flatMap_cons, List.getElem?_append_right (by rw [hl]; omega), hl, show (j + 1) * 6 + m - 6 = j * 6 + m by omega]
    exact ih
theorem flat_len : ∀ L : List Wd, (L.flatMap Wd.vs).length = L.length * 6
  | [] => rfl
  | y :: L => by
    have hl : y.vs.length = 6 := rfl
    rw [List.flatMap_cons, List.length_append, hl, flat_len L, List.length_cons]
    omega

/-- What a value that owns the cells of L is. -/
theorem owns_slice {w : World} {base : Nat} {v : Value} {L : List Wd} (h : w.ownsRow base 27 6 v L.length (L.flatMap Wd.vs)) :
    ∃ ad cap, v = .slice ad L.length cap ∧ SliceW w.heap.size w ad L.length L := by
  rcases h.2 with ⟨rfl, h0⟩ | ⟨g, cap, cur, rfl, hb, hg, hn, hm, hs, ht⟩
  · exact ⟨none, 0, by rw [h0], by rw [h0]; unfold maxLen; omega, rfl, .inl h0⟩
  · refine ⟨some ⟨g, 0, none⟩, cap, rfl, by omega, rfl, .inr ⟨g, 0, rfl, (Array.getElem?_eq_some_iff.1 hg).1, fun j x hj => WordAt.of_vs fun m u hm => ?_⟩⟩
    have hc := h.cells (g := g) rfl (j * 6 + m) u (flat_get hj hm)
    rw [Go.WideShapes.add_plain] at hc
    rw [Nat.zero_add]
    rw [Nat.zero_add] at hc
    exact hc

theorem slice_of_own {w : World} {base : Nat} {ad : Option Addr} {c : Nat} {L : List Wd} (h : w.ownsRow base 27 6 (.slice ad L.length c) L.length (L.flatMap Wd.vs)) : SliceW w.heap.size w ad L.length L := by
  obtain ⟨ad', c', hv, hS⟩ := owns_slice h
  simp only [Value.slice.injEq] at hv
  rw [hv.1]
  exact hS

/-- The list that is being drawn: v owns the words L; the cursor is in q, the call's own result still zero in block u. -/
structure Lst (w0 : World) (q u : Nat) (a : Option Addr) (len cap : Nat) (v : Value) (L : List Wd) (w : World) : Prop where
  own : w.ownsRow (q + 1) 27 6 v L.length (L.flatMap Wd.vs)
  d : Drawn q q w a len cap
  z : Six w u 0 false 0 0 0 0
  bel : Below w0.heap.size w0 w
  uq : u < q
  nu : w0.heap.size ≤ u
section
variable {w0 w w' : World} {q u : Nat} {a : Option Addr} {len cap : Nat} {v : Value} {L : List Wd}
theorem Lst.moved (h : Lst w0 q u a len cap v L w) (d : Drawn q q w' a len cap) (k : KeepBut q w w') : Lst w0 q u a len cap v L w' :=
  ⟨h.own.kept k.grown (owns_ne h.own (Nat.lt_succ_self q)), d, h.z.keep k (Nat.ne_of_lt h.uq), h.bel.trans (k.below (by have := h.uq; have := h.nu; omega) h.bel.size), h.uq, h.nu⟩
theorem Lst.appended {w1 : World} {v' : Value} {x : Wd} (h : Lst w0 q u a len cap v L w1) (o : w'.ownsRow (q + 1) 27 6 v' (L.length + 1) (L.flatMap Wd.vs ++ x.vs)) (g : w1.grownBy w' v.ownBlock) : Lst w0 q u a len cap v' (L ++ [x]) w' := by
  have hb : Below (q + 1) w1 w' := grown_below g (Nat.succ_le_of_lt h.d.lt) (fun k hk => (h.own.lt k hk).1)
  have hz : (L ++ [x]).flatMap Wd.vs = L.flatMap Wd.vs ++ x.vs := by simp
  refine ⟨?_, h.d.low hb, h.z.low hb (Nat.lt_succ_of_lt h.uq), h.bel.trans (hb.mono (by have := h.uq; have := h.nu; omega)), h.uq, h.nu⟩
  rw [hz, List.length_append]
  exact o
theorem Lst.alloc (h : Lst w0 q u a len cap v L w) (o : Obj) : Lst w0 q u a len cap v L (w.alloc o) :=
  ⟨h.own.alloc o, h.d.alloc o, h.z.alloc o, h.bel.alloc h.bel.size o, h.uq, h.nu⟩
end

/-- The list, and a word in block r beside it. -/
structure Fin6 (w0 : World) (q u r : Nat) (a : Option Addr) (len cap : Nat) (v : Value) (L : List Wd) (n : Int) (i : Bool) (b t p s : Int) (w : World) : Prop where
  l : Lst w0 q u a len cap v L w
  k : Six w r n i b t p s
  ne : v.ownBlock ≠ some r
  qr : q < r
section
variable {w0 w w' : World} {q u r : Nat} {a : Option Addr} {len cap : Nat} {v : Value} {L : List Wd} {n : Int} {i : Bool} {b t p s : Int}
theorem Lst.word (h : Lst w0 q u a len cap v L w) (n : Int) (i : Bool) (b t p s : Int) (T : TypeId) :
    Fin6 w0 q u w.heap.size a len cap v L n i b t p s (w.alloc (.cells #[.int .i64 n, .bool i, .int .i64 b, .int .i64 t, .int .i64 p, .int .i64 s] T)) :=
  ⟨h.alloc _, Six.new _ _ _ _ _ _ _ _, fun he => by have := (h.own.lt _ he).2; omega, h.d.lt⟩
theorem Fin6.moved (h : Fin6 w0 q u r a len cap v L n i b t p s w) (d : Drawn q q w' a len cap) (k : KeepBut q w w') : Fin6 w0 q u r a len cap v L n i b t p s w' :=
  ⟨h.l.moved d k, h.k.keep k (Nat.ne_of_gt h.qr), h.ne, h.qr⟩
theorem Lst.setHigh (h : Lst w0 q u a len cap v L w) {r : Nat} (hr : q < r) (ne : v.ownBlock ≠ some r) (o : Nat) (x : Value) : Lst w0 q u a len cap v L (w.setCell ⟨r, o, none⟩ x) := by
  have hb : Below (q + 1) w (w.setCell ⟨r, o, none⟩ x) := (Below.refl _ _).setCell (p := ⟨r, o, none⟩) hr x
  exact ⟨h.own.kept (grown_set w r o x) (.inr ne), h.d.low hb, h.z.low hb (Nat.lt_succ_of_lt h.uq), h.bel.trans (hb.mono (by have := h.uq; have := h.nu; omega)), h.uq, h.nu⟩
theorem Fin6.set0 (h : Fin6 w0 q u r a len cap v L n i b t p s w) (m : Int) : Fin6 w0 q u r a len cap v L m i b t p s (w.setCell ⟨r, 0, none⟩ (.int .i64 m)) := ⟨h.l.setHigh h.qr h.ne _ _, h.k.set0 m, h.ne, h.qr⟩
theorem Fin6.set1 (h : Fin6 w0 q u r a len cap v L n i b t p s w) (m : Bool) : Fin6 w0 q u r a len cap v L n m b t p s (w.setCell ⟨r, 1, none⟩ (.bool m)) := ⟨h.l.setHigh h.qr h.ne _ _, h.k.set1 m, h.ne, h.qr⟩
theorem Fin6.set2 (h : Fin6 w0 q u r a len cap v L n i b t p s w) (m : Int) : Fin6 w0 q u r a len cap v L n i m t p s (w.setCell ⟨r, 2, none⟩ (.int .i64 m)) := ⟨h.l.setHigh h.qr h.ne _ _, h.k.set2 m, h.ne, h.qr⟩
theorem Fin6.set3 (h : Fin6 w0 q u r a len cap v L n i b t p s w) (m : Int) : Fin6 w0 q u r a len cap v L n i b m p s (w.setCell ⟨r, 3, none⟩ (.int .i64 m)) := ⟨h.l.setHigh h.qr h.ne _ _, h.k.set3 m, h.ne, h.qr⟩
theorem Fin6.set4 (h : Fin6 w0 q u r a len cap v L n i b t p s w) (m : Int) : Fin6 w0 q u r a len cap v L n i b t m s (w.setCell ⟨r, 4, none⟩ (.int .i64 m)) := ⟨h.l.setHigh h.qr h.ne _ _, h.k.set4 m, h.ne, h.qr⟩
theorem Fin6.set5 (h : Fin6 w0 q u r a len cap v L n i b t p s w) (m : Int) : Fin6 w0 q u r a len cap v L n i b t p m (w.setCell ⟨r, 5, none⟩ (.int .i64 m)) := ⟨h.l.setHigh h.qr h.ne _ _, h.k.set5 m, h.ne, h.qr⟩
theorem Lst.drew (h : Lst w0 q u a len cap v L w) : Lst w0 q u a len cap v L w.drew := h.moved h.d.drew (KeepBut.refl _ _).drew
theorem Fin6.drew (h : Fin6 w0 q u r a len cap v L n i b t p s w) : Fin6 w0 q u r a len cap v L n i b t p s w.drew := h.moved h.l.d.drew (KeepBut.refl _ _).drew
/-- The call's own result is written: the list stays. -/
theorem own_set {w : World} {q : Nat} {v : Value} {L : List Wd} (h : w.ownsRow (q + 1) 27 6 v L.length (L.flatMap Wd.vs)) {u : Nat} (hu : u < q) (o : Nat) (x : Value) : (w.setCell ⟨u, o, none⟩ x).ownsRow (q + 1) 27 6 v L.length (L.flatMap Wd.vs) :=
  h.kept (grown_set w u o x) (owns_ne h (Nat.lt_succ_of_lt hu))
end
end Go.Proofs.Ytejpeikfibaapaa
