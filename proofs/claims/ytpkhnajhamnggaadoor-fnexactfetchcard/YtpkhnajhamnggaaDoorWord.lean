/- Words as values, in blocks of six cells; Plain and leftBy of both sides; toWord and eqWord of the laws. No condition. -/
import Derived.Test.YtpkhnajhamnggaaDoorKeyS
import Derived.Test.YtpkhnajhamnggaaDoorDraw4
import Derived.Test.YtpkhnajhamnggaaDoorAft
namespace Go.Proofs.YtpkhnajhamnggaaDoor
open Go.ChangeShapes Go.WideShapes Go.ChangeAt Go.RowKit

/-- Some cells of block r, which may be written. -/
structure Blk (w : World) (r : Nat) (vs : List Value) : Prop where
  lt : r < w.heap.size
  c : ∀ i v, vs[i]? = some v → w.cell? ⟨r, i, none⟩ = some v ∧ w.frozen? ⟨r, i, none⟩ = false
section
variable {w w' : World} {r q : Nat} {vs : List Value}
theorem Blk.keep (h : Blk w r vs) (k : KeepBut q w w') (hq : r ≠ q) : Blk w' r vs :=
  ⟨Nat.lt_of_lt_of_le h.lt k.size, fun i v hv => ⟨(k.cell (p := ⟨r, i, none⟩) h.lt hq).trans (h.c i v hv).1, (k.frozen (p := ⟨r, i, none⟩) h.lt hq).trans (h.c i v hv).2⟩⟩
theorem Blk.below (h : Blk w r vs) (k : Below w.heap.size w w') : Blk w' r vs := h.keep (q := w.heap.size) (KeepBut.ofBelow k) (Nat.ne_of_lt h.lt)
theorem Blk.alloc (h : Blk w r vs) (o : Obj) : Blk (w.alloc o) r vs := h.keep (q := w.heap.size) ((KeepBut.refl _ _).alloc o) (Nat.ne_of_lt h.lt)
theorem Blk.drew (h : Blk w r vs) : Blk w.drew r vs := h.below ((Below.refl _ _).drew)
theorem Blk.other (h : Blk w r vs) {r' : Nat} (hr : r ≠ r') (o : Nat) (u : Value) : Blk (w.setCell ⟨r', o, none⟩ u) r vs := h.keep (q := r') ((KeepBut.refl _ _).setCell o u) hr
end
theorem Blk.aft {W w : World} {r : Nat} {vs : List Value} (h : Aft W w) (f : Blk W r vs) : Blk w r vs := f.below h

/-- A word in block r. -/
structure Six (w : World) (r : Nat) (n : Int) (i : Bool) (b t p s : Int) : Prop where
  lt : r < w.heap.size
  c0 : w.cell? ⟨r, 0, none⟩ = some (.int .i64 n)
  c1 : w.cell? ⟨r, 1, none⟩ = some (.bool i)
  c2 : w.cell? ⟨r, 2, none⟩ = some (.int .i64 b)
  c3 : w.cell? ⟨r, 3, none⟩ = some (.int .i64 t)
  c4 : w.cell? ⟨r, 4, none⟩ = some (.int .i64 p)
  c5 : w.cell? ⟨r, 5, none⟩ = some (.int .i64 s)
  f0 : w.frozen? ⟨r, 0, none⟩ = false
  f1 : w.frozen? ⟨r, 1, none⟩ = false
  f2 : w.frozen? ⟨r, 2, none⟩ = false
  f3 : w.frozen? ⟨r, 3, none⟩ = false
  f4 : w.frozen? ⟨r, 4, none⟩ = false
  f5 : w.frozen? ⟨r, 5, none⟩ = false
section
variable {w w' : World} {r q : Nat} {n : Int} {i : Bool} {b t p s : Int}
theorem Six.keep (h : Six w r n i b t p s) (k : KeepBut q w w') (hq : r ≠ q) : Six w' r n i b t p s :=
  ⟨Nat.lt_of_lt_of_le h.lt k.size, (k.cell (p := ⟨r, 0, none⟩) h.lt hq).trans h.c0, (k.cell (p := ⟨r, 1, none⟩) h.lt hq).trans h.c1, (k.cell (p := ⟨r, 2, none⟩) h.lt hq).trans h.c2, (k.cell (p := ⟨r, 3, none⟩) h.lt hq).trans h.c3, (k.cell (p := ⟨r, 4, none⟩) h.lt hq).trans h.c4, (k.cell (p := ⟨r, 5, none⟩) h.lt hq).trans h.c5,
    (k.frozen (p := ⟨r, 0, none⟩) h.lt hq).trans h.f0, (k.frozen (p := ⟨r, 1, none⟩) h.lt hq).trans h.f1, (k.frozen (p := ⟨r, 2, none⟩) h.lt hq).trans h.f2, (k.frozen (p := ⟨r, 3, none⟩) h.lt hq).trans h.f3, (k.frozen (p := ⟨r, 4, none⟩) h.lt hq).trans h.f4, (k.frozen (p := ⟨r, 5, none⟩) h.lt hq).trans h.f5⟩
theorem Six.below (h : Six w r n i b t p s) (k : Below w.heap.size w w') : Six w' r n i b t p s := h.keep (q := w.heap.size) (KeepBut.ofBelow k) (Nat.ne_of_lt h.lt)
theorem Six.alloc (h : Six w r n i b t p s) (o : Obj) : Six (w.alloc o) r n i b t p s := h.keep (q := w.heap.size) ((KeepBut.refl _ _).alloc o) (Nat.ne_of_lt h.lt)
theorem Six.drew (h : Six w r n i b t p s) : Six w.drew r n i b t p s := h.below ((Below.refl _ _).drew)
theorem Six.other (h : Six w r n i b t p s) {r' : Nat} (hr : r ≠ r') (o : Nat) (u : Value) : Six (w.setCell ⟨r', o, none⟩ u) r n i b t p s := h.keep (q := r') ((KeepBut.refl _ _).setCell o u) hr
end
theorem Six.new (w : World) (n : Int) (i : Bool) (b t p s : Int) (T : TypeId) : Six (w.alloc (.cells #[.int .i64 n, .bool i, .int .i64 b, .int .i64 t, .int .i64 p, .int .i64 s] T)) w.heap.size n i b t p s :=
  ⟨by simp, by simp, by simp, by simp, by simp, by simp, by simp, by simp, by simp, by simp, by simp, by simp, by simp⟩
theorem Six.second (w : World) (o : Obj) (n : Int) (i : Bool) (b t p s : Int) (T : TypeId) : Six ((w.alloc o).alloc (.cells #[.int .i64 n, .bool i, .int .i64 b, .int .i64 t, .int .i64 p, .int .i64 s] T)) (w.heap.size + 1) n i b t p s := by
  have h := Six.new (w.alloc o) n i b t p s T
  simpa using h
theorem Six.third (w : World) (o o' : Obj) (n : Int) (i : Bool) (b t p s : Int) (T : TypeId) : Six (((w.alloc o).alloc o').alloc (.cells #[.int .i64 n, .bool i, .int .i64 b, .int .i64 t, .int .i64 p, .int .i64 s] T)) (w.heap.size + 1 + 1) n i b t p s := by
  have h := Six.new ((w.alloc o).alloc o') n i b t p s T
  rw [World.size_alloc, World.size_alloc] at h
  exact h
theorem Aft.six {W w : World} (h : Aft W w) {r : Nat} {n : Int} {i : Bool} {b t p s : Int} (f : Six W r n i b t p s) : Six w r n i b t p s := f.below h

theorem i64_and65535 (n : Int) : bits .and .i64 n 65535 = n % 65536 := by
  have h7 : (BitVec.ofInt 64 65535).toNat = 2 ^ 16 - 1 := by decide
  have key : (BitVec.ofInt 64 n &&& BitVec.ofInt 64 65535).toNat = (n % ((2 ^ 64 : Nat) : Int)).toNat % 2 ^ 16 := by
    rw [BitVec.toNat_and, BitVec.toNat_ofInt, h7, Nat.and_two_pow_sub_one_eq_mod]
  show IntKind.i64.wrap ((BitVec.ofInt 64 n &&& BitVec.ofInt 64 65535).toNat : Nat) = n % 65536
  rw [key, IntKind.wrap_i64]
  omega

theorem left_math (n : Int) : (wrap64 (n.tmod 65536 + 65536)).tmod 65536 = n % 65536 := by
  have h1 : n.tmod 65536 = if 0 ≤ n then n % 65536 else -((-n) % 65536) := by
    split
    · exact Int.tmod_eq_emod_of_nonneg (by omega)
    · have := Int.neg_tmod (a := -n) (b := 65536)
      rw [Int.neg_neg] at this
      rw [this, Int.tmod_eq_emod_of_nonneg (by omega)]
  have h2 : wrap64 (n.tmod 65536 + 65536) = n.tmod 65536 + 65536 := by
    unfold wrap64
    split at h1 <;> omega
  rw [h2, Int.tmod_eq_emod_of_nonneg (by split at h1 <;> omega)]
  split at h1 <;> omega

set_option maxHeartbeats 1000000 in
theorem toWord_any (n : Int) (i : Bool) (b t p s : Int) (w : World) :
    Calls Tryd.prog 7 #[.agg #[.int .i64 n, .bool i, .int .i64 b, .int .i64 t, .int .i64 p, .int .i64 s]] w fun e w' => e = .returned (.agg #[.int .i64 n, .bool i, .int .i64 b, .int .i64 t, .int .i64 p, .int .i64 s]) ∧ Below w.heap.size w w' := by
  go_enter Tryd.func7, Tryd.ntmps7
  go_wp2_with fail
  refine (toKey_any b t p s _).mono ?_
  rintro e w1 ⟨rfl, hb1⟩
  have K1 : Hid (Below w.heap.size w w1) := ((((Below.refl _ w).alloc (Nat.le_refl _) _).alloc (by simp) _).alloc (by simp; omega) _).trans (hb1.mono (by simp; omega))
  have A1 : Six w1 (w.heap.size + 1) 0 false 0 0 0 0 := ((Six.second w _ 0 false 0 0 0 0 36).alloc _).below hb1
  have B1 : Six w1 (w.heap.size + 1 + 1) n i 0 0 0 0 := (Six.third w _ _ n i 0 0 0 0 36).below hb1
  obtain ⟨_, a0, a1, a2, a3, a4, a5, f0, f1, f2, f3, f4, f5⟩ := A1
  obtain ⟨_, c0, c1, c2, c3, c4, c5, g0, g1, g2, g3, g4, g5⟩ := B1
  clear hb1
  go_wp2
  refine bodyPost_ret (v := .agg #[.int .i64 n, .bool i, .int .i64 b, .int .i64 t, .int .i64 p, .int .i64 s]) (by simp [results, Tryd.results7, go_sem, a0, a1, a2, a3, a4, a5]) rfl ⟨rfl, ?_⟩
  repeat' (first | (with_reducible exact K1.out) | (refine Below.setCell ?_ (by show w.heap.size ≤ _; dsimp only; omega) _))

end Go.Proofs.YtpkhnajhamnggaaDoor
