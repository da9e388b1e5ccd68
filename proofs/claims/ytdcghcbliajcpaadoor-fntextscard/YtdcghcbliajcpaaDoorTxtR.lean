/- insOfLine of the program at all lines: the place that is read, or that it panics with the program's own error. The tables and errors hold what the texts lay. -/
import Derived.Test.YtdcghcbliajcpaaDoorTxtP
namespace Go.Proofs.YtdcghcbliajcpaaDoor
open Go.ChangeShapes Go.WideShapes Go.ChangeAt Go.RowKit
set_option maxRecDepth 100000

theorem opL_some {nm : List UInt8} {o : Int} (h : opL nm = some o) : (1 ≤ o ∧ o ≤ 15) ∧ nmL o = nm := by
  have h1 := List.mem_of_find?_eq_some h
  have h2 := List.find?_some h
  simp only [List.mem_cons, List.not_mem_nil, or_false] at h1
  exact ⟨by omega, by simpa using h2⟩
theorem fl_four {o : Int} {c : UInt8} (h : c ∈ flL o) : c = 82 ∨ c = 65 ∨ c = 66 ∨ c = 78 := by
  revert h
  unfold flL
  repeat' split
  all_goals
    simp only [List.mem_cons, List.not_mem_nil, or_false]
    grind
theorem withField_any (o r a b n : Int) (c : UInt8) (hc : c = 82 ∨ c = 65 ∨ c = 66 ∨ c = 78) (p : List UInt8) (hp : p.length ≤ 281474976710656) (ae : Addr) (w : World) (hL : LayE ae w) :
    Calls Tryd.prog 61 #[.agg #[.int .i64 o, .int .i64 r, .int .i64 a, .int .i64 b, .int .i64 n], .int .i32 (c.toNat : Int), .string (bs p)] w fun e w' => e = endI ae insV (withL ⟨o, r, a, b, n⟩ c p) ∧ Below w.heap.size w w' := by
  rcases hc with rfl | rfl | rfl | rfl
  · exact withField_82 o r a b n p hp ae w hL
  · exact withField_65 o r a b n p hp ae w hL
  · exact withField_66 o r a b n p hp ae w hL
  · exact withField_78 o r a b n p hp ae w hL

/-- A line being read: the answer's block, the place that is made in kx, the parts in g. -/
structure Rl (w0 : World) (g kx : Nat) (P : List (List UInt8)) (x : In) (w : World) : Prop where
  res : Five w w0.heap.size 0 0 0 0 0
  fx : Five w kx x.o x.r x.a x.b x.n
  row : ∀ j p, P[j]? = some p → w.cell? ⟨g, j, none⟩ = some (.string (bs p))
  lg : g < w.heap.size
  n1 : w0.heap.size ≠ kx
  n2 : g ≠ kx
  n0 : w0.heap.size ≤ kx
  ng : w0.heap.size ≠ g
  bel : Below w0.heap.size w0 w
section
variable {w0 w w' : World} {g kx : Nat} {P : List (List UInt8)} {x : In}
theorem Rl.next (h : Rl w0 g kx P x w) (hb : Below w.heap.size w w') : Rl w0 g kx P x w' :=
  ⟨h.res.below hb, h.fx.below hb, fun j p hj => (hb.cell h.lg).trans (h.row j p hj), Nat.lt_of_lt_of_le h.lg hb.size, h.n1, h.n2, h.n0, h.ng, h.bel.trans (hb.mono h.bel.size)⟩
theorem Rl.keep {q : Nat} (h : Rl w0 g kx P x w) (k : KeepBut q w w') (h1 : w0.heap.size ≠ q) (h2 : kx ≠ q) (h3 : g ≠ q) (h0 : w0.heap.size ≤ q) : Rl w0 g kx P x w' :=
  ⟨h.res.keep k h1, h.fx.keep k h2, fun j p hj => (k.cell h.lg h3).trans (h.row j p hj), Nat.lt_of_lt_of_le h.lg k.size, h.n1, h.n2, h.n0, h.ng, h.bel.trans (k.below h0 h.bel.size)⟩
theorem Rl.drew (h : Rl w0 g kx P x w) : Rl w0 g kx P x w.drew := h.next (Below.refl _ _).drew
/-- The world with another place in kx. -/
def put5 (w : World) (k : Nat) (y : In) : World := ((((w.setCell ⟨k, 0, none⟩ (.int .i64 y.o)).setCell ⟨k, 1, none⟩ (.int .i64 y.r)).setCell ⟨k, 2, none⟩ (.int .i64 y.a)).setCell ⟨k, 3, none⟩ (.int .i64 y.b)).setCell ⟨k, 4, none⟩ (.int .i64 y.n)
theorem keep_put5 (w : World) (k : Nat) (y : In) : KeepBut k w (put5 w k y) := ((((((KeepBut.refl k w).setCell 0 _).setCell 1 _).setCell 2 _).setCell 3 _).setCell 4 _)
theorem Rl.set (h : Rl w0 g kx P x w) (y : In) : Rl w0 g kx P y (put5 w kx y) :=
  ⟨h.res.keep (keep_put5 w kx y) h.n1, ((((h.fx.set0 y.o).set1 y.r).set2 y.a).set3 y.b).set4 y.n, fun j p hj => ((keep_put5 w kx y).cell h.lg h.n2).trans (h.row j p hj), Nat.lt_of_lt_of_le h.lg (keep_put5 w kx y).size, h.n1, h.n2, h.n0, h.ng, h.bel.trans ((keep_put5 w kx y).below h.n0 h.bel.size)⟩
end
theorem foldL_step {c : UInt8} {p : List UInt8} {fl : List UInt8} {ps : List (List UInt8)} {pos : Nat} {x : In} (hf : fl[pos]? = some c) (hp : ps[pos]? = some p) : foldL (fl.drop pos) (ps.drop pos) x = (withL x c p).bind (foldL (fl.drop (pos + 1)) (ps.drop (pos + 1))) := by
  obtain ⟨h1, h2⟩ := List.getElem?_eq_some_iff.1 hf
  obtain ⟨h3, h4⟩ := List.getElem?_eq_some_iff.1 hp
  rw [List.drop_eq_getElem_cons h1, List.drop_eq_getElem_cons h3, h2, h4]
  rfl
theorem part_len {c : UInt8} : ∀ {l : List UInt8} {p : List UInt8}, p ∈ splitL c l → p.length ≤ l.length
  | [], p, h => by simp [splitL] at h; simp [h]
  | x :: r, p, h => by
    unfold splitL at h
    split at h
    · rcases List.mem_cons.1 h with rfl | h
      · simp
      · have := part_len h; simp; omega
    · split at h
      · simp at h; simp [h]
      · rename_i y t hs
        rcases List.mem_cons.1 h with rfl | h
        · have := part_len (l := r) (p := y) (by rw [hs]; exact List.mem_cons_self ..); simp; omega
        · have := part_len (l := r) (p := p) (by rw [hs]; exact List.mem_cons_of_mem _ h); simp; omega
end Go.Proofs.YtdcghcbliajcpaaDoor
