/- A struct of four ints in a block of the call's own that is written while a cursor is moved: what is kept. -/
import Derived.Test.YtpkhnajhamnggaaDoorKeyT
namespace Go.Proofs.YtpkhnajhamnggaaDoor
open Go.ChangeShapes Go.WideShapes Go.ChangeAt Go.RowKit

/-- What is written into a block that is new turns nothing that was there. -/
theorem KeepBut.setNew {q : Nat} {a w : World} (h : KeepBut q a w) {r : Nat} (hr : a.heap.size ≤ r) (o : Nat) (v : Value) : KeepBut q a (w.setCell ⟨r, o, none⟩ v) := by
  have g := (Below.refl 0 w).setCell (p := ⟨r, o, none⟩) (Nat.zero_le _) v
  exact ⟨g.os.trans h.os, g.tape.trans h.tape, g.output.trans h.output, Nat.le_trans h.size g.size, fun k hk hq => (Below.heap_setCell w _ v k (by show k ≠ r; omega)).trans (h.block k hk hq)⟩
theorem KeepBut.drew {q : Nat} {a w : World} (h : KeepBut q a w) : KeepBut q a w.drew := h.trans ⟨rfl, rfl, rfl, Nat.le_refl _, fun _ _ _ => rfl⟩

theorem Drawn.setNew {B q : Nat} {w : World} {a : Option Addr} {len cap : Nat} (d : Drawn B q w a len cap) {r : Nat} (hq : r ≠ q) (hB : B ≤ r) (o : Nat) (v : Value) : Drawn B q (w.setCell ⟨r, o, none⟩ v) a len cap := by
  have g := (Below.refl B w).setCell (p := ⟨r, o, none⟩) hB v
  exact ⟨d.code.keep g, d.hq, Nat.lt_of_lt_of_le d.lt g.size, d.cur.keep (Below.heap_setCell w _ v q (fun h => hq h.symm))⟩
theorem Drawn.drew {B q : Nat} {w : World} {a : Option Addr} {len cap : Nat} (d : Drawn B q w a len cap) : Drawn B q w.drew a len cap := d.below ((Below.refl _ _).drew)

/-- A write elsewhere. -/
theorem Four.other {w : World} {r : Nat} {x y z v : Int} (h : Four w r x y z v) {r' : Nat} (hr : r ≠ r') (o : Nat) (u : Value) : Four (w.setCell ⟨r', o, none⟩ u) r x y z v :=
  h.keep (q := r') ((KeepBut.refl _ _).setCell o u) hr
theorem Four.set0 {w : World} {r : Nat} {x y z v : Int} (h : Four w r x y z v) (n : Int) : Four (w.setCell ⟨r, 0, none⟩ (.int .i64 n)) r n y z v := by
  obtain ⟨l, c0, c1, c2, c3, f0, f1, f2, f3⟩ := h
  exact ⟨Nat.lt_of_lt_of_le l ((Below.refl 0 w).setCell (p := ⟨r, 0, none⟩) (Nat.zero_le _) _).size, by go_simp, by go_simp, by go_simp, by go_simp, by go_simp, by go_simp, by go_simp, by go_simp⟩
theorem Four.set1 {w : World} {r : Nat} {x y z v : Int} (h : Four w r x y z v) (n : Int) : Four (w.setCell ⟨r, 1, none⟩ (.int .i64 n)) r x n z v := by
  obtain ⟨l, c0, c1, c2, c3, f0, f1, f2, f3⟩ := h
  exact ⟨Nat.lt_of_lt_of_le l ((Below.refl 0 w).setCell (p := ⟨r, 1, none⟩) (Nat.zero_le _) _).size, by go_simp, by go_simp, by go_simp, by go_simp, by go_simp, by go_simp, by go_simp, by go_simp⟩
theorem Four.set2 {w : World} {r : Nat} {x y z v : Int} (h : Four w r x y z v) (n : Int) : Four (w.setCell ⟨r, 2, none⟩ (.int .i64 n)) r x y n v := by
  obtain ⟨l, c0, c1, c2, c3, f0, f1, f2, f3⟩ := h
  exact ⟨Nat.lt_of_lt_of_le l ((Below.refl 0 w).setCell (p := ⟨r, 2, none⟩) (Nat.zero_le _) _).size, by go_simp, by go_simp, by go_simp, by go_simp, by go_simp, by go_simp, by go_simp, by go_simp⟩
theorem Four.set3 {w : World} {r : Nat} {x y z v : Int} (h : Four w r x y z v) (n : Int) : Four (w.setCell ⟨r, 3, none⟩ (.int .i64 n)) r x y z n := by
  obtain ⟨l, c0, c1, c2, c3, f0, f1, f2, f3⟩ := h
  exact ⟨Nat.lt_of_lt_of_le l ((Below.refl 0 w).setCell (p := ⟨r, 3, none⟩) (Nat.zero_le _) _).size, by go_simp, by go_simp, by go_simp, by go_simp, by go_simp, by go_simp, by go_simp, by go_simp⟩

/-- A key that is being drawn: in block r some four ints; the cursor in q; the call's own result still zero in block u; of what was there in w0 nothing has turned but the cursor. -/
structure Make (w0 : World) (B q r u : Nat) (a : Option Addr) (len cap : Nat) (b t p s : Int) (w : World) : Prop where
  k : Four w r b t p s
  z : Four w u 0 0 0 0
  d : Drawn B q w a len cap
  kb : KeepBut q w0 w
  ru : r ≠ u
  rq : r ≠ q
  uq : u ≠ q
  rB : B ≤ r
  nr : w0.heap.size ≤ r
  nu : w0.heap.size ≤ u

section
variable {w0 w w' : World} {B q r u : Nat} {a : Option Addr} {len cap : Nat} {b t p s : Int}
/-- Behind a draw. -/
theorem Make.moved (h : Make w0 B q r u a len cap b t p s w) (d : Drawn B q w' a len cap) (k : KeepBut q w w') : Make w0 B q r u a len cap b t p s w' :=
  ⟨h.k.keep k h.rq, h.z.keep k h.uq, d, h.kb.trans k, h.ru, h.rq, h.uq, h.rB, h.nr, h.nu⟩
theorem Make.drew (h : Make w0 B q r u a len cap b t p s w) : Make w0 B q r u a len cap b t p s w.drew :=
  ⟨h.k.drew, h.z.drew, h.d.drew, h.kb.drew, h.ru, h.rq, h.uq, h.rB, h.nr, h.nu⟩
theorem Make.set0 (h : Make w0 B q r u a len cap b t p s w) (n : Int) : Make w0 B q r u a len cap n t p s (w.setCell ⟨r, 0, none⟩ (.int .i64 n)) :=
  ⟨h.k.set0 n, h.z.other h.ru.symm _ _, h.d.setNew h.rq h.rB _ _, h.kb.setNew h.nr _ _, h.ru, h.rq, h.uq, h.rB, h.nr, h.nu⟩
theorem Make.set1 (h : Make w0 B q r u a len cap b t p s w) (n : Int) : Make w0 B q r u a len cap b n p s (w.setCell ⟨r, 1, none⟩ (.int .i64 n)) :=
  ⟨h.k.set1 n, h.z.other h.ru.symm _ _, h.d.setNew h.rq h.rB _ _, h.kb.setNew h.nr _ _, h.ru, h.rq, h.uq, h.rB, h.nr, h.nu⟩
theorem Make.set2 (h : Make w0 B q r u a len cap b t p s w) (n : Int) : Make w0 B q r u a len cap b t n s (w.setCell ⟨r, 2, none⟩ (.int .i64 n)) :=
  ⟨h.k.set2 n, h.z.other h.ru.symm _ _, h.d.setNew h.rq h.rB _ _, h.kb.setNew h.nr _ _, h.ru, h.rq, h.uq, h.rB, h.nr, h.nu⟩
theorem Make.set3 (h : Make w0 B q r u a len cap b t p s w) (n : Int) : Make w0 B q r u a len cap b t p n (w.setCell ⟨r, 3, none⟩ (.int .i64 n)) :=
  ⟨h.k.set3 n, h.z.other h.ru.symm _ _, h.d.setNew h.rq h.rB _ _, h.kb.setNew h.nr _ _, h.ru, h.rq, h.uq, h.rB, h.nr, h.nu⟩
end
end Go.Proofs.YtpkhnajhamnggaaDoor
