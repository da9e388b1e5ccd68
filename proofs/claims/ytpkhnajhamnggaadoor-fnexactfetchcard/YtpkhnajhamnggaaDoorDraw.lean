/- How the laws draw: l1New, l1Byte, l1Below, l1Once, l1PickInt over a cursor in new memory: each returns, its number is in its range, nothing that was there turns but the cursor's own block. -/
import Derived.Test.YtpkhnajhamnggaaDoorRows
import Derived.WalkKit
import Derived.ProofKit
import Derived.OpenShut
import Derived.WalkSpells
import Derived.WalkLawsBesides
import Derived.Deep.QuietTactic
import Derived.BigQuiet
import Derived.Laws.Bits128
namespace Go.Proofs.YtpkhnajhamnggaaDoor
open Go.ChangeShapes Go.WideShapes Go.ChangeAt Go.RowKit

theorem i64_and255 (n : Int) : bits .and .i64 n 255 = n % 256 := by
  have h7 : (BitVec.ofInt 64 255).toNat = 2 ^ 8 - 1 := by decide
  have key : (BitVec.ofInt 64 n &&& BitVec.ofInt 64 255).toNat = (n % ((2 ^ 64 : Nat) : Int)).toNat % 2 ^ 8 := by
    rw [BitVec.toNat_and, BitVec.toNat_ofInt, h7, Nat.and_two_pow_sub_one_eq_mod]
  show IntKind.i64.wrap ((BitVec.ofInt 64 n &&& BitVec.ofInt 64 255).toNat : Nat) = n % 256
  rw [key, IntKind.wrap_i64]
  omega
theorem and255_lo (n : Int) : 0 ≤ bits .and .i64 n 255 := by rw [i64_and255]; omega
theorem and255_hi (n : Int) : bits .and .i64 n 255 ≤ 255 := by rw [i64_and255]; omega

/-- Of what was there in w nothing has turned in w' but block q. -/
structure KeepBut (q : Nat) (w w' : World) : Prop where
  os : w'.os = w.os
  tape : w'.tape = w.tape
  output : w'.output = w.output
  size : w.heap.size ≤ w'.heap.size
  block : ∀ k, k < w.heap.size → k ≠ q → w'.heap[k]? = w.heap[k]?

theorem KeepBut.refl (q : Nat) (w : World) : KeepBut q w w := ⟨rfl, rfl, rfl, Nat.le_refl _, fun _ _ _ => rfl⟩
theorem KeepBut.trans {q : Nat} {a b c : World} (h : KeepBut q a b) (g : KeepBut q b c) : KeepBut q a c :=
  ⟨g.os.trans h.os, g.tape.trans h.tape, g.output.trans h.output, Nat.le_trans h.size g.size, fun k hk hq => (g.block k (Nat.lt_of_lt_of_le hk h.size) hq).trans (h.block k hk hq)⟩
theorem KeepBut.drewN {q : Nat} {a w : World} (h : KeepBut q a w) (n : Nat) : KeepBut q a (w.drewN n) := h.trans ⟨rfl, rfl, rfl, Nat.le_refl _, fun _ _ _ => rfl⟩
theorem KeepBut.alloc {q : Nat} {a w : World} (h : KeepBut q a w) (o : Obj) : KeepBut q a (w.alloc o) := by
  have g := (Below.refl w.heap.size w).alloc (Nat.le_refl _) o
  exact h.trans ⟨g.os, g.tape, g.output, g.size, fun k hk _ => g.block k hk⟩
theorem KeepBut.setCell {q : Nat} {a w : World} (h : KeepBut q a w) (o : Nat) (v : Value) : KeepBut q a (w.setCell ⟨q, o, none⟩ v) := by
  have g := (Below.refl 0 w).setCell (p := ⟨q, o, none⟩) (Nat.zero_le _) v
  exact h.trans ⟨g.os, g.tape, g.output, g.size, fun k _ hq => Below.heap_setCell w _ v k hq⟩
theorem KeepBut.below {q B : Nat} {w w' : World} (h : KeepBut q w w') (hq : B ≤ q) (hB : B ≤ w.heap.size) : Below B w w' :=
  ⟨h.os, h.tape, h.output, h.size, fun k hk => h.block k (by omega) (by omega)⟩
theorem KeepBut.ofBelow {q : Nat} {w w' : World} (h : Below w.heap.size w w') : KeepBut q w w' := ⟨h.os, h.tape, h.output, h.size, fun k hk _ => h.block k hk⟩
theorem KeepBut.cell {q : Nat} {w w' : World} (h : KeepBut q w w') {p : Addr} (hp : p.block < w.heap.size) (hq : p.block ≠ q) : w'.cell? p = w.cell? p := World.cell?_of_block (w := w) (h.block p.block hp hq)

/-- The bytes that came in, in blocks below B. -/
def Code8 (B : Nat) (w : World) (a : Option Addr) (len : Nat) : Prop :=
  len ≤ maxLen ∧ (len = 0 ∨ ∃ b off, a = some ⟨b, off, none⟩ ∧ b < B ∧ ∀ i, i < len → ∃ n : Int, 0 ≤ n ∧ n ≤ 255 ∧ w.cell? ⟨b, off + i, none⟩ = some (.int .u8 n))
theorem Code8.keep {B : Nat} {w w' : World} {a : Option Addr} {len : Nat} (h : Code8 B w a len) (hb : Below B w w') : Code8 B w' a len := by
  refine ⟨h.1, ?_⟩
  rcases h.2 with h0 | ⟨b, off, ha, hlt, hc⟩
  · exact .inl h0
  · refine .inr ⟨b, off, ha, hlt, fun i hi => ?_⟩
    obtain ⟨n, h0, h1, hn⟩ := hc i hi
    exact ⟨n, h0, h1, (hb.cell (p := ⟨b, off + i, none⟩) hlt).trans hn⟩

/-- The cursor in block q. -/
def Cur (w : World) (q : Nat) (a : Option Addr) (len cap : Nat) : Prop :=
  ∃ i h : Int, 0 ≤ i ∧ w.cell? ⟨q, 0, none⟩ = some (.slice a len cap) ∧ w.cell? ⟨q, 1, none⟩ = some (.int .i64 i) ∧ w.cell? ⟨q, 2, none⟩ = some (.int .i64 h) ∧
    w.frozen? ⟨q, 1, none⟩ = false ∧ w.frozen? ⟨q, 2, none⟩ = false

end Go.Proofs.YtpkhnajhamnggaaDoor
