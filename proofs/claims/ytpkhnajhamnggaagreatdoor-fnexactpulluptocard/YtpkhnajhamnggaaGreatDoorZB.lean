/- How the laws draw: l1New, l1Byte, l1Below, l1Once, l1PickInt over a cursor in new memory: each returns, its number is in its range, nothing that was there turns but the cursor's own block. · The draws of Draw over one bundle, 'Drawn': the code's bytes, the cursor, and what is kept; a number picked of a literal list is one of the list. · Small facts on the bytes that came in, on what a draw keeps, and on structs of three and four ints in a block that callees leave alone. · Two structs of four ints each, in blocks that callees leave alone, beside what was there at first. · Root of the specification; toKey and eqKey of the laws. No condition. · A struct of four ints in a block of the call's own that is written while a cursor is moved: what is kept. · What comes after a world: nothing that was there in it has turned. For regions whose operations may come in several orders. -/
import Derived.Test.YtpkhnajhamnggaaGreatDoorRows
import Derived.WalkKit
import Derived.ProofKit
import Derived.OpenShut
import Derived.WalkSpells
import Derived.WalkLawsBesides
import Derived.Deep.QuietTactic
import Derived.BigQuiet
import Derived.Laws.Bits128
import Derived.Deep.RegionHeld3
import Derived.Deep.DeepCutAuto
namespace Go.Proofs.YtpkhnajhamnggaaGreatDoor
open Go.ChangeShapes Go.WideShapes Go.ChangeAt Go.RowKit

theorem i64_and255 (n : Int) : bits .and .i64 n 255 = n % 256 := by
  have h7 : (BitVec.ofInt 64 255).toNat = 2 ^ 8 - 1 := by decide
  have key : (BitVec.ofInt 64 n &&& BitVec.ofInt 64 255).toNat = (n % ((2 ^ 64 : Nat) : Int)).toNat % 2 ^ 8 := by
    rw [BitVec.toNat_and, BitVec.toNat_ofInt, h7, Nat.and_two_pow_sub_one_eq_mod]
  show IntKind.i64.wrap ((BitVec.ofInt 64 n &&& BitVec.ofInt 64 255).toNat : Nat) = n % 256
  rw [key, IntKind.wrap_i64]
  omega
theorem and255_lo (n : Int) : 0 ≤ bits .and .i64 n 255 := by rw [i64_and255]; omega
theorem and255_hi (n : Int) : bits .and .i64 n 255 ≤ 255 := by rw [i64_and255]; omega

/-- Of what was there in w nothing has turned in w' but block q. -/
structure KeepBut (q : Nat) (w w' : World) : Prop where
  os : w'.os = w.os
  tape : w'.tape = w.tape
  output : w'.output = w.output
  size : w.heap.size ≤ w'.heap.size
  block : ∀ k, k < w.heap.size → k ≠ q → w'.heap[k]? = w.heap[k]?

theorem KeepBut.refl (q : Nat) (w : World) : KeepBut q w w := ⟨rfl, rfl, rfl, Nat.le_refl _, fun _ _ _ => rfl⟩
theorem KeepBut.trans {q : Nat} {a b c : World} (h : KeepBut q a b) (g : KeepBut q b c) : KeepBut q a c :=
  ⟨g.os.trans h.os, g.tape.trans h.tape, g.output.trans h.output, Nat.le_trans h.size g.size, fun k hk hq => (g.block k (Nat.lt_of_lt_of_le hk h.size) hq).trans (h.block k hk hq)⟩
theorem KeepBut.drewN {q : Nat} {a w : World} (h : KeepBut q a w) (n : Nat) : KeepBut q a (w.drewN n) := h.trans ⟨rfl, rfl, rfl, Nat.le_refl _, fun _ _ _ => rfl⟩
theorem KeepBut.alloc {q : Nat} {a w : World} (h : KeepBut q a w) (o : Obj) : KeepBut q a (w.alloc o) := by
  have g := (Below.refl w.heap.size w).alloc (Nat.le_refl _) o
  exact h.trans ⟨g.os, g.tape, g.output, g.size, fun k hk _ => g.block k hk⟩
theorem KeepBut.setCell {q : Nat} {a w : World} (h : KeepBut q a w) (o : Nat) (v : Value) : KeepBut q a (w.setCell ⟨q, o, none⟩ v) := by
  have g := (Below.refl 0 w).setCell (p := ⟨q, o, none⟩) (Nat.zero_le _) v
  exact h.trans ⟨g.os, g.tape, g.output, g.size, fun k _ hq => Below.heap_setCell w _ v k hq⟩
theorem KeepBut.below {q B : Nat} {w w' : World} (h : KeepBut q w w') (hq : B ≤ q) (hB : B ≤ w.heap.size) : Below B w w' :=
  ⟨h.os, h.tape, h.output, h.size, fun k hk => h.block k (by omega) (by omega)⟩
theorem KeepBut.ofBelow {q : Nat} {w w' : World} (h : Below w.heap.size w w') : KeepBut q w w' := ⟨h.os, h.tape, h.output, h.size, fun k hk _ => h.block k hk⟩
theorem KeepBut.cell {q : Nat} {w w' : World} (h : KeepBut q w w') {p : Addr} (hp : p.block < w.heap.size) (hq : p.block ≠ q) : w'.cell? p = w.cell? p := World.cell?_of_block (w := w) (h.block p.block hp hq)

/-- The bytes that came in, in blocks below B. -/
def Code8 (B : Nat) (w : World) (a : Option Addr) (len : Nat) : Prop :=
  len ≤ maxLen ∧ (len = 0 ∨ ∃ b off, a = some ⟨b, off, none⟩ ∧ b < B ∧ ∀ i, i < len → ∃ n : Int, 0 ≤ n ∧ n ≤ 255 ∧ w.cell? ⟨b, off + i, none⟩ = some (.int .u8 n))
theorem Code8.keep {B : Nat} {w w' : World} {a : Option Addr} {len : Nat} (h : Code8 B w a len) (hb : Below B w w') : Code8 B w' a len := by
  refine ⟨h.1, ?_⟩
  rcases h.2 with h0 | ⟨b, off, ha, hlt, hc⟩
  · exact .inl h0
  · refine .inr ⟨b, off, ha, hlt, fun i hi => ?_⟩
    obtain ⟨n, h0, h1, hn⟩ := hc i hi
    exact ⟨n, h0, h1, (hb.cell (p := ⟨b, off + i, none⟩) hlt).trans hn⟩

/-- The cursor in block q. -/
def Cur (w : World) (q : Nat) (a : Option Addr) (len cap : Nat) : Prop :=
  ∃ i h : Int, 0 ≤ i ∧ w.cell? ⟨q, 0, none⟩ = some (.slice a len cap) ∧ w.cell? ⟨q, 1, none⟩ = some (.int .i64 i) ∧ w.cell? ⟨q, 2, none⟩ = some (.int .i64 h) ∧
    w.frozen? ⟨q, 1, none⟩ = false ∧ w.frozen? ⟨q, 2, none⟩ = false

end Go.Proofs.YtpkhnajhamnggaaGreatDoor

namespace Go.Proofs.YtpkhnajhamnggaaGreatDoor
open Go.ChangeShapes Go.WideShapes Go.ChangeAt Go.RowKit

/-- A cursor in block q over the bytes that came in below block B. -/
structure Drawn (B q : Nat) (w : World) (a : Option Addr) (len cap : Nat) : Prop where
  code : Code8 B w a len
  hq : B ≤ q
  lt : q < w.heap.size
  cur : Cur w q a len cap

theorem Cur.keep {w w' : World} {q : Nat} {a : Option Addr} {len cap : Nat} (h : Cur w q a len cap) (hb : w'.heap[q]? = w.heap[q]?) : Cur w' q a len cap := by
  obtain ⟨i, x, h0, c0, c1, c2, f1, f2⟩ := h
  exact ⟨i, x, h0, (World.cell?_of_block (w := w) hb).trans c0, (World.cell?_of_block (w := w) hb).trans c1, (World.cell?_of_block (w := w) hb).trans c2, (World.frozen?_of_block (w := w) hb).trans f1, (World.frozen?_of_block (w := w) hb).trans f2⟩

theorem Drawn.keep {B q : Nat} {w w' : World} {a : Option Addr} {len cap : Nat} (d : Drawn B q w a len cap) (k : KeepBut q w w') (u : Cur w' q a len cap) : Drawn B q w' a len cap :=
  ⟨d.code.keep (k.below d.hq (Nat.le_of_lt (Nat.lt_of_le_of_lt d.hq d.lt))), d.hq, Nat.lt_of_lt_of_le d.lt k.size, u⟩
/-- What makes new memory alone keeps it. -/
theorem Drawn.below {B q : Nat} {w w' : World} {a : Option Addr} {len cap : Nat} (d : Drawn B q w a len cap) (h : Below w.heap.size w w') : Drawn B q w' a len cap :=
  d.keep (KeepBut.ofBelow h) (d.cur.keep (h.block q d.lt))
theorem Drawn.alloc {B q : Nat} {w : World} {a : Option Addr} {len cap : Nat} (d : Drawn B q w a len cap) (o : Obj) : Drawn B q (w.alloc o) a len cap :=
  d.below ((Below.refl _ _).alloc (Nat.le_refl _) _)
theorem Drawn.base {B q : Nat} {w : World} {a : Option Addr} {len cap : Nat} (d : Drawn B q w a len cap) : B ≤ w.heap.size := Nat.le_of_lt (Nat.lt_of_le_of_lt d.hq d.lt)

theorem new_list (zs : List Int) (T : TypeId) (w : World) (i : Nat) (hi : i < zs.length) :
    (w.alloc (.cells (zs.map (Value.int .i64)).toArray T)).cell? ⟨w.heap.size, i, none⟩ = some (.int .i64 zs[i]) := by
  simp [hi]

end Go.Proofs.YtpkhnajhamnggaaGreatDoor

namespace Go.Proofs.YtpkhnajhamnggaaGreatDoor
open Go.ChangeShapes Go.WideShapes Go.ChangeAt Go.RowKit

theorem Code8.up {B B' : Nat} {w : World} {a : Option Addr} {len : Nat} (h : Code8 B w a len) (hB : B ≤ B') : Code8 B' w a len := by
  refine ⟨h.1, ?_⟩
  rcases h.2 with h0 | ⟨b, off, ha, hlt, hc⟩
  · exact .inl h0
  · exact .inr ⟨b, off, ha, by omega, hc⟩
theorem Code8.later {w w' : World} {a : Option Addr} {len : Nat} (h : Code8 w.heap.size w a len) (hb : Below w.heap.size w w') : Code8 w'.heap.size w' a len := (h.keep hb).up hb.size

theorem Drawn.to {w w1 w2 : World} {a : Option Addr} {len cap : Nat} (_d : Drawn w.heap.size w.heap.size w1 a len cap) (hb : Below w.heap.size w w1) (k : KeepBut w.heap.size w1 w2) : Below w.heap.size w w2 :=
  hb.trans (k.below (Nat.le_refl _) hb.size)

theorem KeepBut.frozen {q : Nat} {w w' : World} (h : KeepBut q w w') {p : Addr} (hp : p.block < w.heap.size) (hq : p.block ≠ q) : w'.frozen? p = w.frozen? p := World.frozen?_of_block (w := w) (h.block p.block hp hq)

/-- Three ints in block r, which may be written. -/
structure Three (w : World) (r : Nat) (x y z : Int) : Prop where
  lt : r < w.heap.size
  c0 : w.cell? ⟨r, 0, none⟩ = some (.int .i64 x)
  c1 : w.cell? ⟨r, 1, none⟩ = some (.int .i64 y)
  c2 : w.cell? ⟨r, 2, none⟩ = some (.int .i64 z)
  f0 : w.frozen? ⟨r, 0, none⟩ = false
  f1 : w.frozen? ⟨r, 1, none⟩ = false
  f2 : w.frozen? ⟨r, 2, none⟩ = false
theorem Three.keep {w w' : World} {r q : Nat} {x y z : Int} (h : Three w r x y z) (k : KeepBut q w w') (hq : r ≠ q) : Three w' r x y z :=
  ⟨Nat.lt_of_lt_of_le h.lt k.size, (k.cell (p := ⟨r, 0, none⟩) h.lt hq).trans h.c0, (k.cell (p := ⟨r, 1, none⟩) h.lt hq).trans h.c1, (k.cell (p := ⟨r, 2, none⟩) h.lt hq).trans h.c2,
    (k.frozen (p := ⟨r, 0, none⟩) h.lt hq).trans h.f0, (k.frozen (p := ⟨r, 1, none⟩) h.lt hq).trans h.f1, (k.frozen (p := ⟨r, 2, none⟩) h.lt hq).trans h.f2⟩
theorem Three.new (w : World) (x y z : Int) (T : TypeId) : Three (w.alloc (.cells #[.int .i64 x, .int .i64 y, .int .i64 z] T)) w.heap.size x y z :=
  ⟨by simp, by simp, by simp, by simp, by simp, by simp, by simp⟩
theorem Three.alloc {w : World} {r : Nat} {x y z : Int} (h : Three w r x y z) (o : Obj) : Three (w.alloc o) r x y z :=
  h.keep (q := w.heap.size) ((KeepBut.refl _ _).alloc o) (Nat.ne_of_lt h.lt)

/-- Four ints in block r, which may be written. -/
structure Four (w : World) (r : Nat) (x y z v : Int) : Prop where
  lt : r < w.heap.size
  c0 : w.cell? ⟨r, 0, none⟩ = some (.int .i64 x)
  c1 : w.cell? ⟨r, 1, none⟩ = some (.int .i64 y)
  c2 : w.cell? ⟨r, 2, none⟩ = some (.int .i64 z)
  c3 : w.cell? ⟨r, 3, none⟩ = some (.int .i64 v)
  f0 : w.frozen? ⟨r, 0, none⟩ = false
  f1 : w.frozen? ⟨r, 1, none⟩ = false
  f2 : w.frozen? ⟨r, 2, none⟩ = false
  f3 : w.frozen? ⟨r, 3, none⟩ = false
theorem Four.keep {w w' : World} {r q : Nat} {x y z v : Int} (h : Four w r x y z v) (k : KeepBut q w w') (hq : r ≠ q) : Four w' r x y z v :=
  ⟨Nat.lt_of_lt_of_le h.lt k.size, (k.cell (p := ⟨r, 0, none⟩) h.lt hq).trans h.c0, (k.cell (p := ⟨r, 1, none⟩) h.lt hq).trans h.c1, (k.cell (p := ⟨r, 2, none⟩) h.lt hq).trans h.c2, (k.cell (p := ⟨r, 3, none⟩) h.lt hq).trans h.c3,
    (k.frozen (p := ⟨r, 0, none⟩) h.lt hq).trans h.f0, (k.frozen (p := ⟨r, 1, none⟩) h.lt hq).trans h.f1, (k.frozen (p := ⟨r, 2, none⟩) h.lt hq).trans h.f2, (k.frozen (p := ⟨r, 3, none⟩) h.lt hq).trans h.f3⟩
theorem Four.new (w : World) (x y z v : Int) (T : TypeId) : Four (w.alloc (.cells #[.int .i64 x, .int .i64 y, .int .i64 z, .int .i64 v] T)) w.heap.size x y z v :=
  ⟨by simp, by simp, by simp, by simp, by simp, by simp, by simp, by simp, by simp⟩
theorem Four.below {w w' : World} {r : Nat} {x y z v : Int} (h : Four w r x y z v) (k : Below w.heap.size w w') : Four w' r x y z v :=
  h.keep (q := w.heap.size) (KeepBut.ofBelow k) (Nat.ne_of_lt h.lt)
theorem Four.alloc {w : World} {r : Nat} {x y z v : Int} (h : Four w r x y z v) (o : Obj) : Four (w.alloc o) r x y z v :=
  h.keep (q := w.heap.size) ((KeepBut.refl _ _).alloc o) (Nat.ne_of_lt h.lt)
end Go.Proofs.YtpkhnajhamnggaaGreatDoor

namespace Go.Proofs.YtpkhnajhamnggaaGreatDoor
open Go.ChangeShapes Go.WideShapes Go.ChangeAt Go.RowKit

theorem Four.drew {w : World} {r : Nat} {x y z v : Int} (h : Four w r x y z v) : Four w.drew r x y z v := h.below ((Below.refl _ _).drew)

/-- The second of two blocks that are new. -/
theorem Four.second (w : World) (o : Obj) (x y z v : Int) (T : TypeId) : Four ((w.alloc o).alloc (.cells #[.int .i64 x, .int .i64 y, .int .i64 z, .int .i64 v] T)) (w.heap.size + 1) x y z v := by
  have h := Four.new (w.alloc o) x y z v T
  simpa using h

/-- Two structs of four ints, in r and r'; nothing that was there in w0 has turned. -/
structure TwoK (w0 : World) (r r' : Nat) (x0 x1 x2 x3 x4 x5 x6 x7 : Int) (w : World) : Prop where
  a : Four w r x0 x1 x2 x3
  b : Four w r' x4 x5 x6 x7
  k : Below w0.heap.size w0 w

theorem TwoK.next {w0 w w' : World} {r r' : Nat} {x0 x1 x2 x3 x4 x5 x6 x7 : Int} (h : TwoK w0 r r' x0 x1 x2 x3 x4 x5 x6 x7 w) (hb : Below w.heap.size w w') : TwoK w0 r r' x0 x1 x2 x3 x4 x5 x6 x7 w' :=
  ⟨h.a.below hb, h.b.below hb, h.k.trans (hb.mono h.k.size)⟩
theorem TwoK.drew {w0 w : World} {r r' : Nat} {x0 x1 x2 x3 x4 x5 x6 x7 : Int} (h : TwoK w0 r r' x0 x1 x2 x3 x4 x5 x6 x7 w) : TwoK w0 r r' x0 x1 x2 x3 x4 x5 x6 x7 w.drew := h.next ((Below.refl _ _).drew)
theorem TwoK.new (w : World) (x0 x1 x2 x3 x4 x5 x6 x7 : Int) (T T' : TypeId) :
    TwoK w w.heap.size (w.heap.size + 1) x0 x1 x2 x3 x4 x5 x6 x7 ((w.alloc (.cells #[.int .i64 x0, .int .i64 x1, .int .i64 x2, .int .i64 x3] T)).alloc (.cells #[.int .i64 x4, .int .i64 x5, .int .i64 x6, .int .i64 x7] T')) :=
  ⟨(Four.new w _ _ _ _ _).alloc _, Four.second w _ _ _ _ _ _, ((Below.refl _ w).alloc (Nat.le_refl _) _).alloc (by simp) _⟩
theorem TwoK.all {w0 w : World} {r r' : Nat} {x0 x1 x2 x3 x4 x5 x6 x7 : Int} (h : TwoK w0 r r' x0 x1 x2 x3 x4 x5 x6 x7 w) :
    w.cell? ⟨r, 0, none⟩ = some (.int .i64 x0) ∧ w.cell? ⟨r, 1, none⟩ = some (.int .i64 x1) ∧ w.cell? ⟨r, 2, none⟩ = some (.int .i64 x2) ∧ w.cell? ⟨r, 3, none⟩ = some (.int .i64 x3) ∧
    w.cell? ⟨r', 0, none⟩ = some (.int .i64 x4) ∧ w.cell? ⟨r', 1, none⟩ = some (.int .i64 x5) ∧ w.cell? ⟨r', 2, none⟩ = some (.int .i64 x6) ∧ w.cell? ⟨r', 3, none⟩ = some (.int .i64 x7) :=
  ⟨h.a.c0, h.a.c1, h.a.c2, h.a.c3, h.b.c0, h.b.c1, h.b.c2, h.b.c3⟩
end Go.Proofs.YtpkhnajhamnggaaGreatDoor

namespace Go.Proofs.YtpkhnajhamnggaaGreatDoor
open Go.ChangeShapes Go.WideShapes Go.ChangeAt Go.RowKit

set_option maxHeartbeats 400000 in
theorem eqKey_same (b t p s : Int) (w : World) :
    Calls Tryz.prog 96 #[.agg #[.int .i64 b, .int .i64 t, .int .i64 p, .int .i64 s], .agg #[.int .i64 b, .int .i64 t, .int .i64 p, .int .i64 s]] w fun e w' => e = .returned (.bool true) ∧ Below w.heap.size w w' := by
  go_enter Tryz.func96, Tryz.ntmps96
  go_wp2
  go_ret
  exact ⟨rfl, ((Below.refl _ _).alloc (Nat.le_refl _) _).alloc (by simp) _⟩

set_option maxHeartbeats 400000 in
theorem toKey_any (b t p s : Int) (w : World) :
    Calls Tryz.prog 83 #[.agg #[.int .i64 b, .int .i64 t, .int .i64 p, .int .i64 s]] w fun e w' => e = .returned (.agg #[.int .i64 b, .int .i64 t, .int .i64 p, .int .i64 s]) ∧ Below w.heap.size w w' := by
  go_enter Tryz.func83, Tryz.ntmps83
  go_wp2
  refine bodyPost_ret (v := .agg #[.int .i64 b, .int .i64 t, .int .i64 p, .int .i64 s]) (by simp [results, Tryz.results83, go_sem]) rfl ⟨rfl, ?_⟩
  repeat (first | exact Below.refl _ _ | refine Below.alloc ?_ (by simp; try omega) _ | refine Below.setCell ?_ (by simp; try omega) _)
end Go.Proofs.YtpkhnajhamnggaaGreatDoor

namespace Go.Proofs.YtpkhnajhamnggaaGreatDoor
open Go.ChangeShapes Go.WideShapes Go.ChangeAt Go.RowKit

/-- What is written into a block that is new turns nothing that was there. -/
theorem KeepBut.setNew {q : Nat} {a w : World} (h : KeepBut q a w) {r : Nat} (hr : a.heap.size ≤ r) (o : Nat) (v : Value) : KeepBut q a (w.setCell ⟨r, o, none⟩ v) := by
  have g := (Below.refl 0 w).setCell (p := ⟨r, o, none⟩) (Nat.zero_le _) v
  exact ⟨g.os.trans h.os, g.tape.trans h.tape, g.output.trans h.output, Nat.le_trans h.size g.size, fun k hk hq => (Below.heap_setCell w _ v k (by show k ≠ r; omega)).trans (h.block k hk hq)⟩
theorem KeepBut.drew {q : Nat} {a w : World} (h : KeepBut q a w) : KeepBut q a w.drew := h.trans ⟨rfl, rfl, rfl, Nat.le_refl _, fun _ _ _ => rfl⟩

theorem Drawn.setNew {B q : Nat} {w : World} {a : Option Addr} {len cap : Nat} (d : Drawn B q w a len cap) {r : Nat} (hq : r ≠ q) (hB : B ≤ r) (o : Nat) (v : Value) : Drawn B q (w.setCell ⟨r, o, none⟩ v) a len cap := by
  have g := (Below.refl B w).setCell (p := ⟨r, o, none⟩) hB v
  exact ⟨d.code.keep g, d.hq, Nat.lt_of_lt_of_le d.lt g.size, d.cur.keep (Below.heap_setCell w _ v q (fun h => hq h.symm))⟩
theorem Drawn.drew {B q : Nat} {w : World} {a : Option Addr} {len cap : Nat} (d : Drawn B q w a len cap) : Drawn B q w.drew a len cap := d.below ((Below.refl _ _).drew)

/-- A write elsewhere. -/
theorem Four.other {w : World} {r : Nat} {x y z v : Int} (h : Four w r x y z v) {r' : Nat} (hr : r ≠ r') (o : Nat) (u : Value) : Four (w.setCell ⟨r', o, none⟩ u) r x y z v :=
  h.keep (q := r') ((KeepBut.refl _ _).setCell o u) hr
theorem Four.set0 {w : World} {r : Nat} {x y z v : Int} (h : Four w r x y z v) (n : Int) : Four (w.setCell ⟨r, 0, none⟩ (.int .i64 n)) r n y z v := by
  obtain ⟨l, c0, c1, c2, c3, f0, f1, f2, f3⟩ := h
  exact ⟨Nat.lt_of_lt_of_le l ((Below.refl 0 w).setCell (p := ⟨r, 0, none⟩) (Nat.zero_le _) _).size, by go_simp, by go_simp, by go_simp, by go_simp, by go_simp, by go_simp, by go_simp, by go_simp⟩
theorem Four.set1 {w : World} {r : Nat} {x y z v : Int} (h : Four w r x y z v) (n : Int) : Four (w.setCell ⟨r, 1, none⟩ (.int .i64 n)) r x n z v := by
  obtain ⟨l, c0, c1, c2, c3, f0, f1, f2, f3⟩ := h
  exact ⟨Nat.lt_of_lt_of_le l ((Below.refl 0 w).setCell (p := ⟨r, 1, none⟩) (Nat.zero_le _) _).size, by go_simp, by go_simp, by go_simp, by go_simp, by go_simp, by go_simp, by go_simp, by go_simp⟩
theorem Four.set2 {w : World} {r : Nat} {x y z v : Int} (h : Four w r x y z v) (n : Int) : Four (w.setCell ⟨r, 2, none⟩ (.int .i64 n)) r x y n v := by
  obtain ⟨l, c0, c1, c2, c3, f0, f1, f2, f3⟩ := h
  exact ⟨Nat.lt_of_lt_of_le l ((Below.refl 0 w).setCell (p := ⟨r, 2, none⟩) (Nat.zero_le _) _).size, by go_simp, by go_simp, by go_simp, by go_simp, by go_simp, by go_simp, by go_simp, by go_simp⟩
theorem Four.set3 {w : World} {r : Nat} {x y z v : Int} (h : Four w r x y z v) (n : Int) : Four (w.setCell ⟨r, 3, none⟩ (.int .i64 n)) r x y z n := by
  obtain ⟨l, c0, c1, c2, c3, f0, f1, f2, f3⟩ := h
  exact ⟨Nat.lt_of_lt_of_le l ((Below.refl 0 w).setCell (p := ⟨r, 3, none⟩) (Nat.zero_le _) _).size, by go_simp, by go_simp, by go_simp, by go_simp, by go_simp, by go_simp, by go_simp, by go_simp⟩

/-- A key that is being drawn: in block r some four ints; the cursor in q; the call's own result still zero in block u; of what was there in w0 nothing has turned but the cursor. -/
structure Make (w0 : World) (B q r u : Nat) (a : Option Addr) (len cap : Nat) (b t p s : Int) (w : World) : Prop where
  k : Four w r b t p s
  z : Four w u 0 0 0 0
  d : Drawn B q w a len cap
  kb : KeepBut q w0 w
  ru : r ≠ u
  rq : r ≠ q
  uq : u ≠ q
  rB : B ≤ r
  nr : w0.heap.size ≤ r
  nu : w0.heap.size ≤ u

section
variable {w0 w w' : World} {B q r u : Nat} {a : Option Addr} {len cap : Nat} {b t p s : Int}
/-- Behind a draw. -/
theorem Make.moved (h : Make w0 B q r u a len cap b t p s w) (d : Drawn B q w' a len cap) (k : KeepBut q w w') : Make w0 B q r u a len cap b t p s w' :=
  ⟨h.k.keep k h.rq, h.z.keep k h.uq, d, h.kb.trans k, h.ru, h.rq, h.uq, h.rB, h.nr, h.nu⟩
theorem Make.drew (h : Make w0 B q r u a len cap b t p s w) : Make w0 B q r u a len cap b t p s w.drew :=
  ⟨h.k.drew, h.z.drew, h.d.drew, h.kb.drew, h.ru, h.rq, h.uq, h.rB, h.nr, h.nu⟩
theorem Make.set0 (h : Make w0 B q r u a len cap b t p s w) (n : Int) : Make w0 B q r u a len cap n t p s (w.setCell ⟨r, 0, none⟩ (.int .i64 n)) :=
  ⟨h.k.set0 n, h.z.other h.ru.symm _ _, h.d.setNew h.rq h.rB _ _, h.kb.setNew h.nr _ _, h.ru, h.rq, h.uq, h.rB, h.nr, h.nu⟩
theorem Make.set1 (h : Make w0 B q r u a len cap b t p s w) (n : Int) : Make w0 B q r u a len cap b n p s (w.setCell ⟨r, 1, none⟩ (.int .i64 n)) :=
  ⟨h.k.set1 n, h.z.other h.ru.symm _ _, h.d.setNew h.rq h.rB _ _, h.kb.setNew h.nr _ _, h.ru, h.rq, h.uq, h.rB, h.nr, h.nu⟩
theorem Make.set2 (h : Make w0 B q r u a len cap b t p s w) (n : Int) : Make w0 B q r u a len cap b t n s (w.setCell ⟨r, 2, none⟩ (.int .i64 n)) :=
  ⟨h.k.set2 n, h.z.other h.ru.symm _ _, h.d.setNew h.rq h.rB _ _, h.kb.setNew h.nr _ _, h.ru, h.rq, h.uq, h.rB, h.nr, h.nu⟩
theorem Make.set3 (h : Make w0 B q r u a len cap b t p s w) (n : Int) : Make w0 B q r u a len cap b t p n (w.setCell ⟨r, 3, none⟩ (.int .i64 n)) :=
  ⟨h.k.set3 n, h.z.other h.ru.symm _ _, h.d.setNew h.rq h.rB _ _, h.kb.setNew h.nr _ _, h.ru, h.rq, h.uq, h.rB, h.nr, h.nu⟩
end
end Go.Proofs.YtpkhnajhamnggaaGreatDoor

namespace Go.Proofs.YtpkhnajhamnggaaGreatDoor
open Go.ChangeShapes Go.WideShapes Go.ChangeAt Go.RowKit

theorem hid_mk {p : Prop} (h : p) : Hid p := h

/-- w comes after W: of what was there in W nothing has turned. -/
def Aft (W w : World) : Prop := Below W.heap.size W w
theorem Aft.refl (W : World) : Aft W W := Below.refl _ _
theorem Aft.below {W w : World} (h : Aft W w) : Below W.heap.size W w := h
theorem Aft.call {W w w' : World} (h : Aft W w) (hb : Below w.heap.size w w') : Aft W w' := Below.trans h (hb.mono h.size)
theorem Aft.trans {W w w' : World} (h : Aft W w) (hb : Aft w w') : Aft W w' := h.call hb
theorem Aft.drew {W w : World} (h : Aft W w) : Aft W w.drew := Below.drew h
theorem Aft.drewN {W w : World} (h : Aft W w) (n : Nat) : Aft W (w.drewN n) := below_drewN h n
theorem Aft.alloc {W w : World} (h : Aft W w) (o : Obj) : Aft W (w.alloc o) := Below.alloc h h.size o
theorem Aft.set {W w : World} (h : Aft W w) {r o : Nat} {v : Value} (hr : W.heap.size ≤ r) : Aft W (w.setCell ⟨r, o, none⟩ v) := Below.setCell h hr v
/-- The last block may hold something else. -/
theorem Aft.realloc {W w : World} {o o' : Obj} (h : Aft W (w.alloc o)) (l : W.heap.size ≤ w.heap.size) : Aft W (w.alloc o') := by
  have h' : Below W.heap.size W (w.alloc o) := h
  have g := (Below.refl w.heap.size w).alloc (Nat.le_refl _) o
  have g' := (Below.refl w.heap.size w).alloc (Nat.le_refl _) o'
  exact ⟨g'.os.trans (g.os.symm.trans h'.os), g'.tape.trans (g.tape.symm.trans h'.tape), g'.output.trans (g.output.symm.trans h'.output), Nat.le_trans l g'.size,
    fun k hk => (g'.block k (Nat.lt_of_lt_of_le hk l)).trans ((g.block k (Nat.lt_of_lt_of_le hk l)).symm.trans (h'.block k hk))⟩
theorem Aft.four {W w : World} (h : Aft W w) {r : Nat} {x y z v : Int} (f : Four W r x y z v) : Four w r x y z v := f.below h
theorem Aft.two {w0 W w : World} (h : Aft W w) {r r' : Nat} {x0 x1 x2 x3 x4 x5 x6 x7 : Int} (f : TwoK w0 r r' x0 x1 x2 x3 x4 x5 x6 x7 W) : TwoK w0 r r' x0 x1 x2 x3 x4 x5 x6 x7 w := f.next h
end Go.Proofs.YtpkhnajhamnggaaGreatDoor
