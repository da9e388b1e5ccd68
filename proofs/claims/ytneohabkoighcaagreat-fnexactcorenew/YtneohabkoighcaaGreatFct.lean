/- Facts on a world, each of which hangs on some blocks alone, kept as a list over what turns; the cells of a block as a list of values. No condition. -/
import Derived.Test.YtneohabkoighcaaGreatWordL
namespace Go.Proofs.YtneohabkoighcaaGreat
open Go.ChangeShapes Go.WideShapes Go.ChangeAt Go.RowKit
set_option maxRecDepth 100000

/-- Of what was there nothing has turned but the blocks in T. -/
structure KeptS (T : Nat → Prop) (w w' : World) : Prop where
  os : w'.os = w.os
  tape : w'.tape = w.tape
  output : w'.output = w.output
  size : w.heap.size ≤ w'.heap.size
  block : ∀ k, k < w.heap.size → ¬ T k → w'.heap[k]? = w.heap[k]?
theorem KeptS.below {T : Nat → Prop} {B : Nat} {w w' : World} (h : KeptS T w w') (hT : ∀ k, T k → B ≤ k) (hB : B ≤ w.heap.size) : Below B w w' :=
  ⟨h.os, h.tape, h.output, h.size, fun k hk => h.block k (by omega) fun ht => by have := hT k ht; omega⟩
theorem KeptS.ofBelow {T : Nat → Prop} {w w' : World} (h : Below w.heap.size w w') : KeptS T w w' := ⟨h.os, h.tape, h.output, h.size, fun k hk _ => h.block k hk⟩
theorem KeptS.ofBut {T : Nat → Prop} {q : Nat} {w w' : World} (h : KeepBut q w w') (hq : T q) : KeptS T w w' := ⟨h.os, h.tape, h.output, h.size, fun k hk ht => h.block k hk fun e => ht (e ▸ hq)⟩
theorem KeptS.trans {T : Nat → Prop} {w w1 w' : World} (h : KeptS T w w1) (g : KeptS T w1 w') : KeptS T w w' :=
  ⟨g.os.trans h.os, g.tape.trans h.tape, g.output.trans h.output, Nat.le_trans h.size g.size, fun k hk ht => (g.block k (Nat.lt_of_lt_of_le hk h.size) ht).trans (h.block k hk ht)⟩
theorem KeptS.mono {T U : Nat → Prop} {w w' : World} (h : KeptS T w w') (hTU : ∀ k, T k → U k) : KeptS U w w' := ⟨h.os, h.tape, h.output, h.size, fun k hk ht => h.block k hk fun e => ht (hTU k e)⟩

/-- A fact that hangs on the blocks in S alone. -/
structure Fct where
  S : Nat → Prop
  p : World → Prop
  keep : ∀ w w' : World, p w → w.heap.size ≤ w'.heap.size → (∀ k, k < w.heap.size → S k → w'.heap[k]? = w.heap[k]?) → p w'

/-- What was there at first has not turned, and these facts hold. -/
structure Hold (w0 w : World) (fs : List Fct) : Prop where
  bel : Below w0.heap.size w0 w
  all : ∀ f ∈ fs, f.p w
section
variable {w0 w w' : World} {fs : List Fct}
theorem Hold.new (w : World) : Hold w w [] := ⟨Below.refl _ _, fun _ h => by cases h⟩
theorem Hold.next (h : Hold w0 w fs) (hb : Below w.heap.size w w') : Hold w0 w' fs :=
  ⟨h.bel.trans (hb.mono h.bel.size), fun f hf => f.keep w w' (h.all f hf) hb.size fun k hk _ => hb.block k hk⟩
theorem Hold.alloc (h : Hold w0 w fs) (o : Obj) : Hold w0 (w.alloc o) fs := h.next ((Below.refl _ _).alloc (Nat.le_refl _) _)
theorem Hold.drew (h : Hold w0 w fs) : Hold w0 w.drew fs := h.next (Below.refl _ _).drew
theorem Hold.push (h : Hold w0 w fs) (f : Fct) (hf : f.p w) : Hold w0 w (f :: fs) := ⟨h.bel, fun g hg => by
  rcases List.mem_cons.1 hg with rfl | hg
  · exact hf
  · exact h.all g hg⟩
theorem Hold.at (h : Hold w0 w fs) {f : Fct} (hm : f ∈ fs) : f.p w := h.all f hm
theorem Hold.sub (h : Hold w0 w fs) {gs : List Fct} (hs : ∀ f ∈ gs, f ∈ fs) : Hold w0 w gs := ⟨h.bel, fun f hf => h.all f (hs f hf)⟩
theorem Hold.mid2 {f g1 g2 : Fct} {gs : List Fct} (h : Hold w0 w (f :: g1 :: g2 :: gs)) : Hold w0 w [g1, g2] := h.sub fun x hx => by
  simp only [List.mem_cons, List.not_mem_nil, or_false] at hx ⊢
  rcases hx with rfl | rfl
  · exact .inr (.inl rfl)
  · exact .inr (.inr (.inl rfl))
theorem Hold.tail {f : Fct} (h : Hold w0 w (f :: fs)) : Hold w0 w fs := h.sub fun _ hg => .tail _ hg
theorem Hold.wrote (h : Hold w0 w fs) {T : Nat → Prop} (k : KeptS T w w') (h0 : ∀ k, T k → w0.heap.size ≤ k) (hd : ∀ f ∈ fs, ∀ k, f.S k → ¬ T k) : Hold w0 w' fs :=
  ⟨h.bel.trans (k.below h0 h.bel.size), fun f hf => f.keep w w' (h.all f hf) k.size fun i hi hs => k.block i hi (hd f hf i hs)⟩
end

/-- A word's six cells. -/
def sixF (r : Nat) (x : Wd) : Fct where
  S := fun k => k = r
  p := fun w => Six w r x.n x.i x.b x.t x.p x.s
  keep := fun w w' h hs hb => by
    have e := hb r h.lt rfl
    obtain ⟨l, c0, c1, c2, c3, c4, c5, f0, f1, f2, f3, f4, f5⟩ := h
    exact ⟨Nat.lt_of_lt_of_le l hs, (World.cell?_of_block e).trans c0, (World.cell?_of_block e).trans c1, (World.cell?_of_block e).trans c2, (World.cell?_of_block e).trans c3, (World.cell?_of_block e).trans c4, (World.cell?_of_block e).trans c5, (World.frozen?_of_block e).trans f0, (World.frozen?_of_block e).trans f1, (World.frozen?_of_block e).trans f2, (World.frozen?_of_block e).trans f3, (World.frozen?_of_block e).trans f4, (World.frozen?_of_block e).trans f5⟩
section
variable {w0 w : World} {fs : List Fct}
theorem Hold.six (h : Hold w0 w fs) {r : Nat} {x : Wd} (hm : sixF r x ∈ fs) : Six w r x.n x.i x.b x.t x.p x.s := h.at hm
end
/-- The block of an address. -/
def On (a : Option Addr) (k : Nat) : Prop := ∃ x, a = some x ∧ x.block = k
theorem on_none (k : Nat) : ¬ On none k := fun ⟨_, h, _⟩ => by cases h
theorem on_some (q k : Nat) : On (some ⟨q, 0, none⟩) k ↔ q = k := ⟨fun ⟨_, h, e⟩ => by cases h; exact e, fun e => ⟨_, rfl, e⟩⟩
/-- The first cells of a block, which may be written. -/
structure Cel (w : World) (r : Nat) (vs : List Value) : Prop where
  lt : r < w.heap.size
  c : ∀ i v, vs[i]? = some v → w.cell? ⟨r, i, none⟩ = some v
  f : ∀ i, i < vs.length → w.frozen? ⟨r, i, none⟩ = false
section
variable {w w' : World} {r q : Nat} {vs : List Value}
theorem Cel.ofBlock (h : Cel w r vs) (hs : w.heap.size ≤ w'.heap.size) (e : w'.heap[r]? = w.heap[r]?) : Cel w' r vs :=
  ⟨Nat.lt_of_lt_of_le h.lt hs, fun i v hv => (World.cell?_of_block (w := w) (w' := w') (a := ⟨r, i, none⟩) e).trans (h.c i v hv), fun i hi => (World.frozen?_of_block (w := w) (w' := w') (a := ⟨r, i, none⟩) e).trans (h.f i hi)⟩
theorem Cel.keep (h : Cel w r vs) (k : KeepBut q w w') (hq : r ≠ q) : Cel w' r vs := h.ofBlock k.size (k.block r h.lt hq)
theorem Cel.below (h : Cel w r vs) (k : Below w.heap.size w w') : Cel w' r vs := h.ofBlock k.size (k.block r h.lt)
theorem Cel.alloc (h : Cel w r vs) (o : Obj) : Cel (w.alloc o) r vs := h.below ((Below.refl _ _).alloc (Nat.le_refl _) o)
theorem Cel.drew (h : Cel w r vs) : Cel w.drew r vs := h.below (Below.refl _ _).drew
theorem Cel.other (h : Cel w r vs) {r' : Nat} (hr : r ≠ r') (o : Nat) (u : Value) : Cel (w.setCell ⟨r', o, none⟩ u) r vs := h.keep (q := r') ((KeepBut.refl _ _).setCell o u) hr
theorem Cel.set (h : Cel w r vs) (i : Nat) (u : Value) : Cel (w.setCell ⟨r, i, none⟩ u) r (vs.set i u) := by
  refine ⟨Nat.lt_of_lt_of_le h.lt ((Below.refl 0 w).setCell (p := ⟨r, i, none⟩) (Nat.zero_le _) u).size, fun j v hv => ?_, fun j hj => ?_⟩
  · rw [List.getElem?_set] at hv
    split at hv
    · rename_i hij
      subst hij
      split at hv
      · rename_i hl
        cases hv
        exact World.cell?_setCell_same' w ⟨r, i, none⟩ _ (by rw [h.c i vs[i] (List.getElem?_eq_getElem hl)]; rfl)
      · cases hv
    · rename_i hij
      rw [World.cell?_setCell_other (h := by intro e; cases e; exact hij rfl)]
      exact h.c j v hv
  · rw [World.frozen?_setCell]
    exact h.f j (by simpa using hj)
end
theorem Cel.new (w : World) (vs : List Value) (T : TypeId) : Cel (w.alloc (.cells vs.toArray T)) w.heap.size vs :=
  ⟨by simp, fun i v hv => by rw [World.cell?_alloc_new]; simpa using hv, fun i _ => by simp⟩
def celF (r : Nat) (vs : List Value) : Fct where
  S := fun k => k = r
  p := fun w => Cel w r vs
  keep := fun _ _ h hs hb => h.ofBlock hs (hb r h.lt rfl)
theorem Hold.cel {w0 w : World} {fs : List Fct} (h : Hold w0 w fs) {r : Nat} {vs : List Value} (hm : celF r vs ∈ fs) : Cel w r vs := h.at hm

theorem Cel.c6 {w : World} {r : Nat} {v0 v1 v2 v3 v4 v5 : Value} (h : Cel w r [v0, v1, v2, v3, v4, v5]) :
    w.cell? ⟨r, 0, none⟩ = some v0 ∧ w.cell? ⟨r, 1, none⟩ = some v1 ∧ w.cell? ⟨r, 2, none⟩ = some v2 ∧ w.cell? ⟨r, 3, none⟩ = some v3 ∧ w.cell? ⟨r, 4, none⟩ = some v4 ∧ w.cell? ⟨r, 5, none⟩ = some v5 :=
  ⟨h.c 0 _ rfl, h.c 1 _ rfl, h.c 2 _ rfl, h.c 3 _ rfl, h.c 4 _ rfl, h.c 5 _ rfl⟩
theorem Cel.f6 {w : World} {r : Nat} {v0 v1 v2 v3 v4 v5 : Value} (h : Cel w r [v0, v1, v2, v3, v4, v5]) :
    w.frozen? ⟨r, 0, none⟩ = false ∧ w.frozen? ⟨r, 1, none⟩ = false ∧ w.frozen? ⟨r, 2, none⟩ = false ∧ w.frozen? ⟨r, 3, none⟩ = false ∧ w.frozen? ⟨r, 4, none⟩ = false ∧ w.frozen? ⟨r, 5, none⟩ = false :=
  ⟨h.f 0 (by simp), h.f 1 (by simp), h.f 2 (by simp), h.f 3 (by simp), h.f 4 (by simp), h.f 5 (by simp)⟩
end Go.Proofs.YtneohabkoighcaaGreat
