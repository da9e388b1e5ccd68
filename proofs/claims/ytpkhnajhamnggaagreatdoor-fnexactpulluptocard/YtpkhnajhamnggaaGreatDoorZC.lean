/- KeyOk and Covers of the specification and of the program, at all keys: both answer the same. No condition. · Plain facts on keys as numbers: who is covered by a covered one is covered; a key covers itself. · Words as values, in blocks of six cells; Plain and leftBy of both sides; toWord and eqWord of the laws. No condition. · WordOk, Plain, KeyWord and Bare of the specification and of the program, at all words: both answer the same. No condition. · KeyWord of the specification and of the program, at all keys and numbers: both answer the same. No condition. · Slices of words; Unders of the program at all words and lists. No condition. · toWordS, eqWordS and szWordS of the laws. No condition but that the list is no longer than the law lets it be. · Slices of bools; toBoolS, eqBoolS and szBoolS of the laws. No condition but that the list is no longer than the law lets it be. · markWordS, heldWordS, markBoolS, heldBoolS of the laws at rows that may be written: what is marked is held. No condition. · Rows of words and bools that may be written: one element anew; rows that 'append' has made. No condition. · markBoolS and heldBoolS of the laws at a row that may be written: what is marked is held. No condition. · Plain facts on words: what is made is right, a key is under itself, numbers go round; two words that are the same are equal. -/
import Derived.Test.YtpkhnajhamnggaaGreatDoorZA
import Derived.Test.YtpkhnajhamnggaaGreatDoorZB
import Derived.Laws.MakeOwn
import Derived.Laws.IdiomCopy
import Derived.OwnWalk
import Derived.Laws.AppendOwn
namespace Go.Proofs.YtpkhnajhamnggaaGreatDoor
open Go.ChangeShapes Go.WideShapes Go.ChangeAt Go.RowKit

/-- A key as a value. -/
abbrev keyV (b t p s : Int) : Value := .agg #[.int .i64 b, .int .i64 t, .int .i64 p, .int .i64 s]

/-- What KeyOk answers. -/
def kokB (b t p s : Int) : Bool := exB b t && (decide (0 ≤ p ∧ p ≤ 63) && decide (0 ≤ s ∧ s ≤ 7))

/-- What Covers answers. -/
def covB (b t p s b' t' p' s' : Int) : Bool :=
  kokB b t p s && (kokB b' t' p' s' && (decide (b ≤ b' ∧ t' ≤ t) && (bits .and .i64 p p' == p')))

set_option maxHeartbeats 1000000 in
theorem specKeyOk_any (b t p s : Int) (w : World) :
    Calls Tryz.prog 116 #[.agg #[.int .i64 b, .int .i64 t, .int .i64 p, .int .i64 s]] w fun e w' => e = .returned (.bool (kokB b t p s)) ∧ Below w.heap.size w w' := by
  have s1 := specExact_any b t
  have s2 := in_any p 0 63
  have s3 := in_any s 0 7
  unfold kokB
  generalize exB b t = x at s1 ⊢
  generalize decide (0 ≤ p ∧ p ≤ 63) = y at s2 ⊢
  generalize decide (0 ≤ s ∧ s ≤ 7) = z at s3 ⊢
  have S1 : Hid _ := s1
  have S2 : Hid _ := s2
  have S3 : Hid _ := s3
  clear s1 s2 s3
  cases x <;> cases y <;> cases z
  all_goals
    go_enter Tryz.func116, Tryz.ntmps116
    go_wp2_with fail
    refine (S1.out _).mono ?_
    rintro e w1 ⟨rfl, hb1⟩
    obtain ⟨_, c0, c1, c2, c3, _, _, _, _⟩ := (Four.new w b t p s 36).below hb1
    have hB1 : Hid (Below w.heap.size w w1) := ((Below.refl _ w).alloc (Nat.le_refl _) _).trans (hb1.mono (by simp))
    clear hb1
    go_wp2_with (first | (go_at_call_of 74 (Value.int IntKind.i64 p); refine (S2.out _).mono ?_; rintro e w' ⟨rfl, rfl⟩) | (go_at_call_of 74 (Value.int IntKind.i64 s); refine (S3.out _).mono ?_; rintro e w' ⟨rfl, rfl⟩))
    go_ret
    exact ⟨rfl, hB1.out⟩

set_option maxHeartbeats 1000000 in
theorem implKeyOk_any (b t p s : Int) (w : World) :
    Calls Tryz.prog 127 #[.agg #[.int .i64 b, .int .i64 t, .int .i64 p, .int .i64 s]] w fun e w' => e = .returned (.bool (kokB b t p s)) ∧ Below w.heap.size w w' := by
  have s1 := implExact_any b t
  have hy : decide (0 ≤ p ∧ p ≤ 63) = (decide (0 ≤ p) && decide (p ≤ 63)) := by simp
  have hz : decide (0 ≤ s ∧ s ≤ 7) = (decide (0 ≤ s) && decide (s ≤ 7)) := by simp
  unfold kokB
  rw [hy, hz]
  clear hy hz
  generalize exB b t = x at s1 ⊢
  have S1 : Hid _ := s1
  clear s1
  by_cases p0 : 0 ≤ p <;> by_cases p1 : p ≤ 63 <;> by_cases q0 : 0 ≤ s <;> by_cases q1 : s ≤ 7 <;> try omega
  all_goals
    simp only [p0, p1, q0, q1, decide_true, decide_false, Bool.and_true, Bool.and_false]
    go_enter Tryz.func127, Tryz.ntmps127
    go_wp2_with fail
    refine (S1.out _).mono ?_
    rintro e w1 ⟨rfl, hb1⟩
    have hB1 : Hid (Below w.heap.size w w1) := ((Below.refl _ w).alloc (Nat.le_refl _) _).trans (hb1.mono (by simp))
    clear hb1
    cases x
    all_goals
      go_wp2
      go_ret
      exact ⟨rfl, hB1.out⟩

set_option maxHeartbeats 400000 in
theorem holds_any (b t p s x y : Int) (w : World) :
    Calls Tryz.prog 196 #[.agg #[.int .i64 b, .int .i64 t, .int .i64 p, .int .i64 s], .int .i64 x, .int .i64 y] w fun e w' => e = .returned (.bool (decide (b ≤ x ∧ y ≤ t))) ∧ Below w.heap.size w w' := by
  by_cases h0 : b ≤ x <;> by_cases h1 : y ≤ t
  all_goals
    go_enter Tryz.func196, Tryz.ntmps196
    go_wp2
    go_ret
    exact ⟨by simp [h0, h1], (Below.refl _ _).alloc (Nat.le_refl _) _⟩

set_option maxHeartbeats 400000 in
theorem has_any (b t p s x : Int) (w : World) :
    Calls Tryz.prog 172 #[.agg #[.int .i64 b, .int .i64 t, .int .i64 p, .int .i64 s], .int .i64 x] w fun e w' => e = .returned (.bool (bits .and .i64 p x == x)) ∧ Below w.heap.size w w' := by
  go_enter Tryz.func172, Tryz.ntmps172
  go_wp2
  go_ret
  exact ⟨rfl, (Below.refl _ _).alloc (Nat.le_refl _) _⟩

end Go.Proofs.YtpkhnajhamnggaaGreatDoor

namespace Go.Proofs.YtpkhnajhamnggaaGreatDoor
open Go.RowKit

theorem and_comm64 (a b : Int) : bits .and .i64 a b = bits .and .i64 b a := by
  show IntKind.i64.wrap ((BitVec.ofInt 64 a &&& BitVec.ofInt 64 b).toNat : Nat) = IntKind.i64.wrap ((BitVec.ofInt 64 b &&& BitVec.ofInt 64 a).toNat : Nat)
  rw [BitVec.and_comm]

theorem and_ofInt (a b : Int) : BitVec.ofInt 64 (bits .and .i64 a b) = BitVec.ofInt 64 a &&& BitVec.ofInt 64 b := by
  show BitVec.ofInt 64 (IntKind.i64.wrap ((BitVec.ofInt 64 a &&& BitVec.ofInt 64 b).toNat : Nat)) = _
  generalize BitVec.ofInt 64 a &&& BitVec.ofInt 64 b = X
  apply BitVec.eq_of_toNat_eq
  rw [BitVec.toNat_ofInt, IntKind.wrap_i64]
  have := X.isLt
  omega

theorem and_of {p q : Int} (h : BitVec.ofInt 64 p &&& BitVec.ofInt 64 q = BitVec.ofInt 64 q) (h0 : 0 ≤ q) (h1 : q ≤ 63) : bits .and .i64 p q = q := by
  show IntKind.i64.wrap ((BitVec.ofInt 64 p &&& BitVec.ofInt 64 q).toNat : Nat) = q
  rw [h, BitVec.toNat_ofInt, IntKind.wrap_i64]
  omega

theorem of_and {p q : Int} (h : bits .and .i64 p q = q) : BitVec.ofInt 64 p &&& BitVec.ofInt 64 q = BitVec.ofInt 64 q := by
  rw [← and_ofInt, h]

theorem and_trans {p q r : Int} (h : bits .and .i64 p q = q) (g : bits .and .i64 q r = r) (h0 : 0 ≤ r) (h1 : r ≤ 63) : bits .and .i64 p r = r := by
  refine and_of ?_ h0 h1
  have a := of_and h
  have b := of_and g
  rw [← b, ← BitVec.and_assoc, a]

theorem and_left {p q : Int} (h0 : 0 ≤ bits .and .i64 p q) (h1 : bits .and .i64 p q ≤ 63) : bits .and .i64 p (bits .and .i64 p q) = bits .and .i64 p q := by
  refine and_of ?_ h0 h1
  rw [and_ofInt, ← BitVec.and_assoc, BitVec.and_self]
theorem and_right {p q : Int} (h0 : 0 ≤ bits .and .i64 p q) (h1 : bits .and .i64 p q ≤ 63) : bits .and .i64 q (bits .and .i64 p q) = bits .and .i64 p q := by
  rw [and_comm64 p q] at h0 h1 ⊢
  exact and_left h0 h1
theorem and_same {p : Int} (h0 : 0 ≤ p) (h1 : p ≤ 63) : bits .and .i64 p p = p := and_of BitVec.and_self h0 h1

theorem kok_of {b t p s : Int} (h : kokB b t p s = true) : bokB b t = true ∧ 0 ≤ p ∧ p ≤ 63 := by
  simp only [kokB, exB, Bool.and_eq_true, decide_eq_true_eq] at h
  exact ⟨h.1.1, h.2.1⟩
theorem cov_of {b t p s b' t' p' s' : Int} (h : covB b t p s b' t' p' s' = true) : kokB b t p s = true ∧ kokB b' t' p' s' = true ∧ b ≤ b' ∧ t' ≤ t ∧ bits .and .i64 p p' = p' := by
  simp only [covB, Bool.and_eq_true, decide_eq_true_eq, beq_iff_eq] at h
  exact ⟨h.1, h.2.1, h.2.2.1.1, h.2.2.1.2, h.2.2.2⟩
theorem cov_mk {b t p s b' t' p' s' : Int} (h1 : kokB b t p s = true) (h2 : kokB b' t' p' s' = true) (h3 : b ≤ b') (h4 : t' ≤ t) (h5 : bits .and .i64 p p' = p') : covB b t p s b' t' p' s' = true := by
  simp only [covB, Bool.and_eq_true, decide_eq_true_eq, beq_iff_eq]
  exact ⟨h1, h2, ⟨h3, h4⟩, h5⟩

theorem cov_trans {b t p s b' t' p' s' c u m r : Int} (h : covB b t p s b' t' p' s' = true) (g : covB b' t' p' s' c u m r = true) : covB b t p s c u m r = true := by
  obtain ⟨h1, _, h3, h4, h5⟩ := cov_of h
  obtain ⟨_, g2, g3, g4, g5⟩ := cov_of g
  obtain ⟨_, k0, k1⟩ := kok_of g2
  exact cov_mk h1 g2 (by omega) (by omega) (and_trans h5 g5 k0 k1)

theorem kok_root : kokB 0 4096 63 0 = true := by decide
theorem same_cov {b t p s : Int} (h : kokB b t p s = true) : covB b t p s b t p s = true := by
  obtain ⟨_, h0, h1⟩ := kok_of h
  exact cov_mk h h (by omega) (by omega) (and_same h0 h1)
end Go.Proofs.YtpkhnajhamnggaaGreatDoor

namespace Go.Proofs.YtpkhnajhamnggaaGreatDoor
open Go.ChangeShapes Go.WideShapes Go.ChangeAt Go.RowKit

/-- Some cells of block r, which may be written. -/
structure Blk (w : World) (r : Nat) (vs : List Value) : Prop where
  lt : r < w.heap.size
  c : ∀ i v, vs[i]? = some v → w.cell? ⟨r, i, none⟩ = some v ∧ w.frozen? ⟨r, i, none⟩ = false
section
variable {w w' : World} {r q : Nat} {vs : List Value}
theorem Blk.keep (h : Blk w r vs) (k : KeepBut q w w') (hq : r ≠ q) : Blk w' r vs :=
  ⟨Nat.lt_of_lt_of_le h.lt k.size, fun i v hv => ⟨(k.cell (p := ⟨r, i, none⟩) h.lt hq).trans (h.c i v hv).1, (k.frozen (p := ⟨r, i, none⟩) h.lt hq).trans (h.c i v hv).2⟩⟩
theorem Blk.below (h : Blk w r vs) (k : Below w.heap.size w w') : Blk w' r vs := h.keep (q := w.heap.size) (KeepBut.ofBelow k) (Nat.ne_of_lt h.lt)
theorem Blk.alloc (h : Blk w r vs) (o : Obj) : Blk (w.alloc o) r vs := h.keep (q := w.heap.size) ((KeepBut.refl _ _).alloc o) (Nat.ne_of_lt h.lt)
theorem Blk.drew (h : Blk w r vs) : Blk w.drew r vs := h.below ((Below.refl _ _).drew)
theorem Blk.other (h : Blk w r vs) {r' : Nat} (hr : r ≠ r') (o : Nat) (u : Value) : Blk (w.setCell ⟨r', o, none⟩ u) r vs := h.keep (q := r') ((KeepBut.refl _ _).setCell o u) hr
end
theorem Blk.aft {W w : World} {r : Nat} {vs : List Value} (h : Aft W w) (f : Blk W r vs) : Blk w r vs := f.below h

/-- A word in block r. -/
structure Six (w : World) (r : Nat) (n : Int) (i : Bool) (b t p s : Int) : Prop where
  lt : r < w.heap.size
  c0 : w.cell? ⟨r, 0, none⟩ = some (.int .i64 n)
  c1 : w.cell? ⟨r, 1, none⟩ = some (.bool i)
  c2 : w.cell? ⟨r, 2, none⟩ = some (.int .i64 b)
  c3 : w.cell? ⟨r, 3, none⟩ = some (.int .i64 t)
  c4 : w.cell? ⟨r, 4, none⟩ = some (.int .i64 p)
  c5 : w.cell? ⟨r, 5, none⟩ = some (.int .i64 s)
  f0 : w.frozen? ⟨r, 0, none⟩ = false
  f1 : w.frozen? ⟨r, 1, none⟩ = false
  f2 : w.frozen? ⟨r, 2, none⟩ = false
  f3 : w.frozen? ⟨r, 3, none⟩ = false
  f4 : w.frozen? ⟨r, 4, none⟩ = false
  f5 : w.frozen? ⟨r, 5, none⟩ = false
section
variable {w w' : World} {r q : Nat} {n : Int} {i : Bool} {b t p s : Int}
theorem Six.keep (h : Six w r n i b t p s) (k : KeepBut q w w') (hq : r ≠ q) : Six w' r n i b t p s :=
  ⟨Nat.lt_of_lt_of_le h.lt k.size, (k.cell (p := ⟨r, 0, none⟩) h.lt hq).trans h.c0, (k.cell (p := ⟨r, 1, none⟩) h.lt hq).trans h.c1, (k.cell (p := ⟨r, 2, none⟩) h.lt hq).trans h.c2, (k.cell (p := ⟨r, 3, none⟩) h.lt hq).trans h.c3, (k.cell (p := ⟨r, 4, none⟩) h.lt hq).trans h.c4, (k.cell (p := ⟨r, 5, none⟩) h.lt hq).trans h.c5,
    (k.frozen (p := ⟨r, 0, none⟩) h.lt hq).trans h.f0, (k.frozen (p := ⟨r, 1, none⟩) h.lt hq).trans h.f1, (k.frozen (p := ⟨r, 2, none⟩) h.lt hq).trans h.f2, (k.frozen (p := ⟨r, 3, none⟩) h.lt hq).trans h.f3, (k.frozen (p := ⟨r, 4, none⟩) h.lt hq).trans h.f4, (k.frozen (p := ⟨r, 5, none⟩) h.lt hq).trans h.f5⟩
theorem Six.below (h : Six w r n i b t p s) (k : Below w.heap.size w w') : Six w' r n i b t p s := h.keep (q := w.heap.size) (KeepBut.ofBelow k) (Nat.ne_of_lt h.lt)
theorem Six.alloc (h : Six w r n i b t p s) (o : Obj) : Six (w.alloc o) r n i b t p s := h.keep (q := w.heap.size) ((KeepBut.refl _ _).alloc o) (Nat.ne_of_lt h.lt)
theorem Six.drew (h : Six w r n i b t p s) : Six w.drew r n i b t p s := h.below ((Below.refl _ _).drew)
theorem Six.other (h : Six w r n i b t p s) {r' : Nat} (hr : r ≠ r') (o : Nat) (u : Value) : Six (w.setCell ⟨r', o, none⟩ u) r n i b t p s := h.keep (q := r') ((KeepBut.refl _ _).setCell o u) hr
end
theorem Six.new (w : World) (n : Int) (i : Bool) (b t p s : Int) (T : TypeId) : Six (w.alloc (.cells #[.int .i64 n, .bool i, .int .i64 b, .int .i64 t, .int .i64 p, .int .i64 s] T)) w.heap.size n i b t p s :=
  ⟨by simp, by simp, by simp, by simp, by simp, by simp, by simp, by simp, by simp, by simp, by simp, by simp, by simp⟩
theorem Six.second (w : World) (o : Obj) (n : Int) (i : Bool) (b t p s : Int) (T : TypeId) : Six ((w.alloc o).alloc (.cells #[.int .i64 n, .bool i, .int .i64 b, .int .i64 t, .int .i64 p, .int .i64 s] T)) (w.heap.size + 1) n i b t p s := by
  have h := Six.new (w.alloc o) n i b t p s T
  simpa using h
theorem Six.third (w : World) (o o' : Obj) (n : Int) (i : Bool) (b t p s : Int) (T : TypeId) : Six (((w.alloc o).alloc o').alloc (.cells #[.int .i64 n, .bool i, .int .i64 b, .int .i64 t, .int .i64 p, .int .i64 s] T)) (w.heap.size + 1 + 1) n i b t p s := by
  have h := Six.new ((w.alloc o).alloc o') n i b t p s T
  rw [World.size_alloc, World.size_alloc] at h
  exact h
theorem Aft.six {W w : World} (h : Aft W w) {r : Nat} {n : Int} {i : Bool} {b t p s : Int} (f : Six W r n i b t p s) : Six w r n i b t p s := f.below h

theorem i64_and65535 (n : Int) : bits .and .i64 n 65535 = n % 65536 := by
  have h7 : (BitVec.ofInt 64 65535).toNat = 2 ^ 16 - 1 := by decide
  have key : (BitVec.ofInt 64 n &&& BitVec.ofInt 64 65535).toNat = (n % ((2 ^ 64 : Nat) : Int)).toNat % 2 ^ 16 := by
    rw [BitVec.toNat_and, BitVec.toNat_ofInt, h7, Nat.and_two_pow_sub_one_eq_mod]
  show IntKind.i64.wrap ((BitVec.ofInt 64 n &&& BitVec.ofInt 64 65535).toNat : Nat) = n % 65536
  rw [key, IntKind.wrap_i64]
  omega

set_option maxHeartbeats 400000 in
theorem specPlain_any (n : Int) (w : World) :
    Calls Tryz.prog 122 #[.int .i64 n] w fun e w' => e = .returned (.agg #[.int .i64 (n % 65536), .bool false, .int .i64 0, .int .i64 0, .int .i64 0, .int .i64 0]) ∧ Below w.heap.size w w' := by
  have q := i64_and65535 n
  go_enter Tryz.func122, Tryz.ntmps122
  go_wp2
  refine bodyPost_ret (v := .agg #[.int .i64 (n % 65536), .bool false, .int .i64 0, .int .i64 0, .int .i64 0, .int .i64 0]) (by simp [results, Tryz.results122, go_sem]) rfl ⟨rfl, ?_⟩
  repeat (first | exact Below.refl _ _ | refine Below.alloc ?_ (by simp; try omega) _ | refine Below.setCell ?_ (by simp; try omega) _)

theorem left_math (n : Int) : (wrap64 (n.tmod 65536 + 65536)).tmod 65536 = n % 65536 := by
  have h1 : n.tmod 65536 = if 0 ≤ n then n % 65536 else -((-n) % 65536) := by
    split
    · exact Int.tmod_eq_emod_of_nonneg (by omega)
    · have := Int.neg_tmod (a := -n) (b := 65536)
      rw [Int.neg_neg] at this
      rw [this, Int.tmod_eq_emod_of_nonneg (by omega)]
  have h2 : wrap64 (n.tmod 65536 + 65536) = n.tmod 65536 + 65536 := by
    unfold wrap64
    split at h1 <;> omega
  rw [h2, Int.tmod_eq_emod_of_nonneg (by split at h1 <;> omega)]
  split at h1 <;> omega

set_option maxHeartbeats 400000 in
theorem leftBy_any (n : Int) (w : World) :
    Calls Tryz.prog 175 #[.int .i64 n, .int .i64 65536] w fun e w' => e = .returned (.int .i64 (n % 65536)) ∧ w' = w := by
  go_enter Tryz.func175, Tryz.ntmps175
  go_wp2
  go_ret
  exact ⟨by show Ending.returned (Value.int IntKind.i64 ((wrap64 (n.tmod 65536 + 65536)).tmod 65536)) = _; rw [left_math], rfl⟩

set_option maxHeartbeats 1000000 in
theorem toWord_any (n : Int) (i : Bool) (b t p s : Int) (w : World) :
    Calls Tryz.prog 39 #[.agg #[.int .i64 n, .bool i, .int .i64 b, .int .i64 t, .int .i64 p, .int .i64 s]] w fun e w' => e = .returned (.agg #[.int .i64 n, .bool i, .int .i64 b, .int .i64 t, .int .i64 p, .int .i64 s]) ∧ Below w.heap.size w w' := by
  go_enter Tryz.func39, Tryz.ntmps39
  go_wp2_with fail
  refine (toKey_any b t p s _).mono ?_
  rintro e w1 ⟨rfl, hb1⟩
  have K1 : Hid (Below w.heap.size w w1) := ((((Below.refl _ w).alloc (Nat.le_refl _) _).alloc (by simp) _).alloc (by simp; omega) _).trans (hb1.mono (by simp; omega))
  have A1 : Six w1 (w.heap.size + 1) 0 false 0 0 0 0 := ((Six.second w _ 0 false 0 0 0 0 38).alloc _).below hb1
  have B1 : Six w1 (w.heap.size + 1 + 1) n i 0 0 0 0 := (Six.third w _ _ n i 0 0 0 0 38).below hb1
  obtain ⟨_, a0, a1, a2, a3, a4, a5, f0, f1, f2, f3, f4, f5⟩ := A1
  obtain ⟨_, c0, c1, c2, c3, c4, c5, g0, g1, g2, g3, g4, g5⟩ := B1
  clear hb1
  go_wp2
  refine bodyPost_ret (v := .agg #[.int .i64 n, .bool i, .int .i64 b, .int .i64 t, .int .i64 p, .int .i64 s]) (by simp [results, Tryz.results39, go_sem, a0, a1, a2, a3, a4, a5]) rfl ⟨rfl, ?_⟩
  repeat' (first | (with_reducible exact K1.out) | (refine Below.setCell ?_ (by show w.heap.size ≤ _; dsimp only; omega) _))

set_option maxHeartbeats 400000 in
theorem eqWord_same (n : Int) (i : Bool) (b t p s : Int) (w : World) :
    Calls Tryz.prog 45 #[.agg #[.int .i64 n, .bool i, .int .i64 b, .int .i64 t, .int .i64 p, .int .i64 s], .agg #[.int .i64 n, .bool i, .int .i64 b, .int .i64 t, .int .i64 p, .int .i64 s]] w fun e w' => e = .returned (.bool true) ∧ Below w.heap.size w w' := by
  go_enter Tryz.func45, Tryz.ntmps45
  cases i
  all_goals
    go_wp2_with fail
    refine (eqKey_same b t p s _).mono ?_
    rintro e w1 ⟨rfl, hb1⟩
    have hB1 : Hid (Below w.heap.size w w1) := (((Below.refl _ w).alloc (Nat.le_refl _) _).alloc (by simp) _).trans (hb1.mono (by simp; omega))
    clear hb1
    go_wp2
    go_ret
    exact ⟨rfl, hB1.out⟩
end Go.Proofs.YtpkhnajhamnggaaGreatDoor

namespace Go.Proofs.YtpkhnajhamnggaaGreatDoor
open Go.ChangeShapes Go.WideShapes Go.ChangeAt Go.RowKit

/-- What WordOk answers. -/
def wokB (n : Int) (i : Bool) (b t p s : Int) : Bool :=
  decide (0 ≤ n ∧ n ≤ 65535) && bif i then kokB b t p s else (b == 0 && (t == 0 && (p == 0 && s == 0)))

theorem st_key : Tryz.prog.stoodInHeld 36 = false := by kernel_rfl
theorem eg_key : Tryz.prog.eqGuardType Tryz.prog.depth 36 = false := by kernel_rfl
theorem equalIn_key (a b c d a' b' c' d' : Int) (w : World) : (Op.equalIn 10000 36 (.agg #[.int .i64 a, .int .i64 b, .int .i64 c, .int .i64 d]) (.agg #[.int .i64 a', .int .i64 b', .int .i64 c', .int .i64 d'])).run Tryz.prog w = .ok (a == a' && (b == b' && (c == c' && d == d'))) w := by
  rw [run_equalIn_agg w 9999 36 _ _ (by kernel_rfl) st_key]
  simp only [Program.fieldsOf, Tryz.underlying36]
  have e3 : ∀ (x y : Int) (w : World), (Op.equalIn 9999 3 (.int .i64 x) (.int .i64 y)).run Tryz.prog w = .ok (x == y) w := fun x y w => run_equalIn_int w 9998 3 _ _ x y Tryz.underlying3
  cases h1 : (a == a') <;> cases h2 : (b == b') <;> cases h3 : (c == c') <;> cases h4 : (d == d') <;> simp [Op.eqFields, go_sem, e3, h1, h2, h3, h4]
theorem eql_key (a b c d a' b' c' d' : Int) (w : World) : (binOp .eql 36 (.agg #[.int .i64 a, .int .i64 b, .int .i64 c, .int .i64 d]) (.agg #[.int .i64 a', .int .i64 b', .int .i64 c', .int .i64 d'])).run Tryz.prog w = .ok (.bool (a == a' && (b == b' && (c == c' && d == d')))) w := by
  rw [run_eql_struct, equalIn_key]; rfl

set_option maxRecDepth 100000 in
set_option maxHeartbeats 1000000 in
theorem implWordOk_any (n : Int) (i : Bool) (b t p s : Int) (w : World) :
    Calls Tryz.prog 86 #[.agg #[.int .i64 n, .bool i, .int .i64 b, .int .i64 t, .int .i64 p, .int .i64 s]] w fun e w' => e = .returned (.bool (wokB n i b t p s)) ∧ Below w.heap.size w w' := by
  have eg := eg_key
  have q1 := equalIn_key
  have q2 := eql_key
  have s1 := implKeyOk_any b t p s
  have hn : decide (0 ≤ n ∧ n ≤ 65535) = (decide (0 ≤ n) && decide (n < 65536)) := by
    by_cases h0 : 0 ≤ n <;> by_cases h1 : n < 65536 <;> simp [h0, h1] <;> omega
  unfold wokB
  rw [hn]
  clear hn
  generalize kokB b t p s = x at s1 ⊢
  have S1 : Hid _ := s1
  clear s1
  by_cases h0 : 0 ≤ n <;> by_cases h1 : n < 65536 <;> try omega
  · cases i
    · simp only [h0, h1, decide_true, Bool.and_true, Bool.true_and, cond_false]
      go_enter Tryz.func86, Tryz.ntmps86
      go_wp2
      go_ret
      exact ⟨rfl, (Below.refl _ _).alloc (Nat.le_refl _) _⟩
    · simp only [h0, h1, decide_true, Bool.and_true, Bool.true_and, cond_true]
      go_enter Tryz.func86, Tryz.ntmps86
      go_wp2_with fail
      refine (S1.out _).mono ?_
      rintro e w1 ⟨rfl, hb1⟩
      have hB1 : Hid (Below w.heap.size w w1) := ((Below.refl _ w).alloc (Nat.le_refl _) _).trans (hb1.mono (by simp))
      clear hb1
      go_wp2
      go_ret
      exact ⟨rfl, hB1.out⟩
  all_goals
    simp only [h0, h1, decide_true, decide_false, Bool.false_and, Bool.and_false]
    go_enter Tryz.func86, Tryz.ntmps86
    go_wp2
    go_ret
    exact ⟨rfl, (Below.refl _ _).alloc (Nat.le_refl _) _⟩

set_option maxRecDepth 100000 in
set_option maxHeartbeats 1000000 in
theorem specWordOk_any (n : Int) (i : Bool) (b t p s : Int) (w : World) :
    Calls Tryz.prog 72 #[.agg #[.int .i64 n, .bool i, .int .i64 b, .int .i64 t, .int .i64 p, .int .i64 s]] w fun e w' => e = .returned (.bool (wokB n i b t p s)) ∧ Below w.heap.size w w' := by
  have eg := eg_key
  have q1 := equalIn_key
  have q2 := eql_key
  have s1 := specKeyOk_any b t p s
  have s2 := in_any n 0 65535
  have hu : undef = Value.tuple #[] := rfl
  unfold wokB
  generalize kokB b t p s = x at s1 ⊢
  generalize decide (0 ≤ n ∧ n ≤ 65535) = y at s2 ⊢
  have S1 : Hid _ := s1
  have S2 : Hid _ := s2
  clear s1 s2
  go_enter Tryz.func72, Tryz.ntmps72
  go_wp2_with fail
  refine (S2.out _).mono ?_
  rintro e w1 ⟨rfl, rfl⟩
  cases y
  · go_wp2
    go_ret
    exact ⟨rfl, (Below.refl _ _).alloc (Nat.le_refl _) _⟩
  cases i
  · go_wp2
    go_ret
    exact ⟨rfl, (Below.refl _ _).alloc (Nat.le_refl _) _⟩
  · go_wp2_with fail
    refine (S1.out _).mono ?_
    rintro e w1 ⟨rfl, hb1⟩
    have A1 := (Six.new w n true b t p s 38).below hb1
    have hB1 : Hid (Below w.heap.size w w1) := ((Below.refl _ w).alloc (Nat.le_refl _) _).trans (hb1.mono (by simp))
    obtain ⟨_, c0, c1, c2, c3, c4, c5, _, _, _, _, _, _⟩ := A1
    clear hb1
    cases x
    all_goals
      go_wp2
      go_ret
      exact ⟨rfl, hB1.out⟩

set_option maxHeartbeats 400000 in
theorem implPlain_any (n : Int) (w : World) :
    Calls Tryz.prog 142 #[.int .i64 n] w fun e w' => e = .returned (.agg #[.int .i64 (n % 65536), .bool false, .int .i64 0, .int .i64 0, .int .i64 0, .int .i64 0]) ∧ Below w.heap.size w w' := by
  have s1 := leftBy_any n
  obtain ⟨m, hm⟩ : ∃ m, Hid (m = n % 65536) := ⟨_, rfl⟩
  rw [← hm.out] at s1 ⊢
  have S1 : Hid _ := s1
  clear s1
  go_enter Tryz.func142, Tryz.ntmps142
  go_wp2_with fail
  refine (S1.out _).mono ?_
  rintro e w1 ⟨rfl, rfl⟩
  go_wp2
  refine bodyPost_ret (v := .agg #[.int .i64 m, .bool false, .int .i64 0, .int .i64 0, .int .i64 0, .int .i64 0]) (by simp [results, Tryz.results142, go_sem]) rfl ⟨rfl, ?_⟩
  repeat' (first | (with_reducible exact Below.refl _ _) | (refine Below.alloc ?_ (by simp; try omega) _) | (refine Below.setCell ?_ (by show w.heap.size ≤ _; dsimp only; omega) _))

set_option maxHeartbeats 1000000 in
theorem specBare_any (n : Int) (i : Bool) (b t p s : Int) (w : World) :
    Calls Tryz.prog 134 #[.agg #[.int .i64 n, .bool i, .int .i64 b, .int .i64 t, .int .i64 p, .int .i64 s]] w fun e w' => e = .returned (.agg #[.int .i64 (n % 65536), .bool false, .int .i64 0, .int .i64 0, .int .i64 0, .int .i64 0]) ∧ Below w.heap.size w w' := by
  have s1 := specPlain_any n
  obtain ⟨m, hm⟩ : ∃ m, Hid (m = n % 65536) := ⟨_, rfl⟩
  rw [← hm.out] at s1 ⊢
  have S1 : Hid _ := s1
  clear s1
  go_enter Tryz.func134, Tryz.ntmps134
  go_wp2_with fail
  refine (S1.out _).mono ?_
  rintro e w1 ⟨rfl, hb1⟩
  have A1 := (Six.second w _ 0 false 0 0 0 0 38).below hb1
  have K1 : Hid (Below w.heap.size w w1) := (((Below.refl _ w).alloc (Nat.le_refl _) _).alloc (by simp) _).trans (hb1.mono (by simp; omega))
  obtain ⟨_, c0, c1, c2, c3, c4, c5, f0, f1, f2, f3, f4, f5⟩ := A1
  clear hb1
  go_wp2
  refine bodyPost_ret (v := .agg #[.int .i64 m, .bool false, .int .i64 0, .int .i64 0, .int .i64 0, .int .i64 0]) (by simp [results, Tryz.results134, go_sem, c0, c1, c2, c3, c4, c5]) rfl ⟨rfl, ?_⟩
  repeat' (first | (with_reducible exact K1.out) | (refine Below.setCell ?_ (by show w.heap.size ≤ _; dsimp only; omega) _))

set_option maxHeartbeats 1000000 in
theorem implBare_any (n : Int) (i : Bool) (b t p s : Int) (w : World) :
    Calls Tryz.prog 168 #[.agg #[.int .i64 n, .bool i, .int .i64 b, .int .i64 t, .int .i64 p, .int .i64 s]] w fun e w' => e = .returned (.agg #[.int .i64 (n % 65536), .bool false, .int .i64 0, .int .i64 0, .int .i64 0, .int .i64 0]) ∧ Below w.heap.size w w' := by
  have s1 := implPlain_any n
  obtain ⟨m, hm⟩ : ∃ m, Hid (m = n % 65536) := ⟨_, rfl⟩
  rw [← hm.out] at s1 ⊢
  have S1 : Hid _ := s1
  clear s1
  go_enter Tryz.func168, Tryz.ntmps168
  go_wp2_with fail
  refine (S1.out _).mono ?_
  rintro e w1 ⟨rfl, hb1⟩
  have A1 := (Six.second w _ 0 false 0 0 0 0 38).below hb1
  have K1 : Hid (Below w.heap.size w w1) := (((Below.refl _ w).alloc (Nat.le_refl _) _).alloc (by simp) _).trans (hb1.mono (by simp; omega))
  obtain ⟨_, c0, c1, c2, c3, c4, c5, f0, f1, f2, f3, f4, f5⟩ := A1
  clear hb1
  go_wp2
  refine bodyPost_ret (v := .agg #[.int .i64 m, .bool false, .int .i64 0, .int .i64 0, .int .i64 0, .int .i64 0]) (by simp [results, Tryz.results168, go_sem, c0, c1, c2, c3, c4, c5]) rfl ⟨rfl, ?_⟩
  repeat' (first | (with_reducible exact K1.out) | (refine Below.setCell ?_ (by show w.heap.size ≤ _; dsimp only; omega) _))
end Go.Proofs.YtpkhnajhamnggaaGreatDoor

namespace Go.Proofs.YtpkhnajhamnggaaGreatDoor
open Go.ChangeShapes Go.WideShapes Go.ChangeAt Go.RowKit

section
variable {w : World} {r : Nat} {n : Int} {i : Bool} {b t p s : Int}
theorem Six.set0 (h : Six w r n i b t p s) (m : Int) : Six (w.setCell ⟨r, 0, none⟩ (.int .i64 m)) r m i b t p s := by
  obtain ⟨l, c0, c1, c2, c3, c4, c5, f0, f1, f2, f3, f4, f5⟩ := h
  exact ⟨Nat.lt_of_lt_of_le l ((Below.refl 0 w).setCell (p := ⟨r, 0, none⟩) (Nat.zero_le _) _).size, by go_simp, by go_simp, by go_simp, by go_simp, by go_simp, by go_simp, by go_simp, by go_simp, by go_simp, by go_simp, by go_simp, by go_simp⟩
theorem Six.set1 (h : Six w r n i b t p s) (m : Bool) : Six (w.setCell ⟨r, 1, none⟩ (.bool m)) r n m b t p s := by
  obtain ⟨l, c0, c1, c2, c3, c4, c5, f0, f1, f2, f3, f4, f5⟩ := h
  exact ⟨Nat.lt_of_lt_of_le l ((Below.refl 0 w).setCell (p := ⟨r, 1, none⟩) (Nat.zero_le _) _).size, by go_simp, by go_simp, by go_simp, by go_simp, by go_simp, by go_simp, by go_simp, by go_simp, by go_simp, by go_simp, by go_simp, by go_simp⟩
theorem Six.set2 (h : Six w r n i b t p s) (m : Int) : Six (w.setCell ⟨r, 2, none⟩ (.int .i64 m)) r n i m t p s := by
  obtain ⟨l, c0, c1, c2, c3, c4, c5, f0, f1, f2, f3, f4, f5⟩ := h
  exact ⟨Nat.lt_of_lt_of_le l ((Below.refl 0 w).setCell (p := ⟨r, 2, none⟩) (Nat.zero_le _) _).size, by go_simp, by go_simp, by go_simp, by go_simp, by go_simp, by go_simp, by go_simp, by go_simp, by go_simp, by go_simp, by go_simp, by go_simp⟩
theorem Six.set3 (h : Six w r n i b t p s) (m : Int) : Six (w.setCell ⟨r, 3, none⟩ (.int .i64 m)) r n i b m p s := by
  obtain ⟨l, c0, c1, c2, c3, c4, c5, f0, f1, f2, f3, f4, f5⟩ := h
  exact ⟨Nat.lt_of_lt_of_le l ((Below.refl 0 w).setCell (p := ⟨r, 3, none⟩) (Nat.zero_le _) _).size, by go_simp, by go_simp, by go_simp, by go_simp, by go_simp, by go_simp, by go_simp, by go_simp, by go_simp, by go_simp, by go_simp, by go_simp⟩
theorem Six.set4 (h : Six w r n i b t p s) (m : Int) : Six (w.setCell ⟨r, 4, none⟩ (.int .i64 m)) r n i b t m s := by
  obtain ⟨l, c0, c1, c2, c3, c4, c5, f0, f1, f2, f3, f4, f5⟩ := h
  exact ⟨Nat.lt_of_lt_of_le l ((Below.refl 0 w).setCell (p := ⟨r, 4, none⟩) (Nat.zero_le _) _).size, by go_simp, by go_simp, by go_simp, by go_simp, by go_simp, by go_simp, by go_simp, by go_simp, by go_simp, by go_simp, by go_simp, by go_simp⟩
theorem Six.set5 (h : Six w r n i b t p s) (m : Int) : Six (w.setCell ⟨r, 5, none⟩ (.int .i64 m)) r n i b t p m := by
  obtain ⟨l, c0, c1, c2, c3, c4, c5, f0, f1, f2, f3, f4, f5⟩ := h
  exact ⟨Nat.lt_of_lt_of_le l ((Below.refl 0 w).setCell (p := ⟨r, 5, none⟩) (Nat.zero_le _) _).size, by go_simp, by go_simp, by go_simp, by go_simp, by go_simp, by go_simp, by go_simp, by go_simp, by go_simp, by go_simp, by go_simp, by go_simp⟩
end

end Go.Proofs.YtpkhnajhamnggaaGreatDoor

namespace Go.Proofs.YtpkhnajhamnggaaGreatDoor
open Go.ChangeShapes Go.WideShapes Go.ChangeAt Go.RowKit

/-- A word. -/
structure Wd where
  n : Int
  i : Bool
  b : Int
  t : Int
  p : Int
  s : Int

/-- A word lies in block k from cell o on. -/
structure WordAt (w : World) (k o : Nat) (x : Wd) : Prop where
  c0 : w.cell? ⟨k, o, none⟩ = some (.int .i64 x.n)
  c1 : w.cell? ⟨k, o + 1, none⟩ = some (.bool x.i)
  c2 : w.cell? ⟨k, o + 2, none⟩ = some (.int .i64 x.b)
  c3 : w.cell? ⟨k, o + 3, none⟩ = some (.int .i64 x.t)
  c4 : w.cell? ⟨k, o + 4, none⟩ = some (.int .i64 x.p)
  c5 : w.cell? ⟨k, o + 5, none⟩ = some (.int .i64 x.s)
theorem WordAt.keep {B : Nat} {w w' : World} {k o : Nat} {x : Wd} (h : WordAt w k o x) (hb : Below B w w') (hk : k < B) : WordAt w' k o x :=
  ⟨(hb.cell (p := ⟨k, o, none⟩) hk).trans h.c0, (hb.cell (p := ⟨k, o + 1, none⟩) hk).trans h.c1, (hb.cell (p := ⟨k, o + 2, none⟩) hk).trans h.c2, (hb.cell (p := ⟨k, o + 3, none⟩) hk).trans h.c3, (hb.cell (p := ⟨k, o + 4, none⟩) hk).trans h.c4, (hb.cell (p := ⟨k, o + 5, none⟩) hk).trans h.c5⟩

/-- A slice of the words L, in a block below B. -/
def SliceW (B : Nat) (w : World) (a : Option Addr) (len : Nat) (L : List Wd) : Prop :=
  len ≤ maxLen ∧ L.length = len ∧ (len = 0 ∨ ∃ k o, a = some ⟨k, o, none⟩ ∧ k < B ∧ ∀ j x, L[j]? = some x → WordAt w k (o + j * 6) x)
theorem SliceW.keep {B : Nat} {w w' : World} {a : Option Addr} {len : Nat} {L : List Wd} (h : SliceW B w a len L) (hb : Below B w w') : SliceW B w' a len L := by
  refine ⟨h.1, h.2.1, ?_⟩
  rcases h.2.2 with h0 | ⟨k, o, ha, hk, hc⟩
  · exact .inl h0
  · exact .inr ⟨k, o, ha, hk, fun j x hj => (hc j x hj).keep hb hk⟩
theorem SliceW.mono {B C : Nat} {w : World} {a : Option Addr} {len : Nat} {L : List Wd} (h : SliceW B w a len L) (hB : B ≤ C) : SliceW C w a len L := by
  refine ⟨h.1, h.2.1, ?_⟩
  rcases h.2.2 with h0 | ⟨k, o, ha, hk, hc⟩
  · exact .inl h0
  · exact .inr ⟨k, o, ha, by omega, hc⟩
theorem SliceW.below {B : Nat} {w w' : World} {a : Option Addr} {len : Nat} {L : List Wd} (h : SliceW B w a len L) (hb : Below w.heap.size w w') (hB : B ≤ w.heap.size) : SliceW B w' a len L := h.keep (hb.mono hB)
theorem SliceW.at {B : Nat} {w : World} {a : Option Addr} {len : Nat} {L : List Wd} (h : SliceW B w a len L) {j : Nat} (hj : j < len) :
    ∃ k o x, a = some ⟨k, o, none⟩ ∧ k < B ∧ L[j]? = some x ∧ WordAt w k (o + j * 6) x := by
  rcases h.2.2 with h0 | ⟨k, o, ha, hk, hc⟩
  · omega
  · have hl : j < L.length := by rw [h.2.1]; exact hj
    exact ⟨k, o, L[j], ha, hk, List.getElem?_eq_getElem hl, hc j _ (List.getElem?_eq_getElem hl)⟩

/-- A word of the list and the word that is asked for, beside what was there at first. -/
structure Pair (w0 w : World) (k o : Nat) (x : Wd) (r : Nat) (n : Int) (i : Bool) (b t p s : Int) : Prop where
  wd : WordAt w k o x
  six : Six w r n i b t p s
  bel : Below w0.heap.size w0 w
  lt : k < w.heap.size
section
variable {w0 w w' : World} {k o : Nat} {x : Wd} {r : Nat} {n : Int} {i : Bool} {b t p s : Int}
theorem Pair.next (h : Pair w0 w k o x r n i b t p s) (hb : Below w.heap.size w w') : Pair w0 w' k o x r n i b t p s :=
  ⟨h.wd.keep hb h.lt, h.six.below hb, h.bel.trans (hb.mono h.bel.size), Nat.lt_of_lt_of_le h.lt hb.size⟩
theorem Pair.drew (h : Pair w0 w k o x r n i b t p s) : Pair w0 w.drew k o x r n i b t p s := h.next ((Below.refl _ _).drew)
theorem Pair.all (h : Pair w0 w k o x r n i b t p s) (hi : x.i = true) :
    w.cell? ⟨k, o + 1, none⟩ = some (.bool true) ∧ w.cell? ⟨k, o + 2, none⟩ = some (.int .i64 x.b) ∧ w.cell? ⟨k, o + 3, none⟩ = some (.int .i64 x.t) ∧ w.cell? ⟨k, o + 4, none⟩ = some (.int .i64 x.p) ∧ w.cell? ⟨k, o + 5, none⟩ = some (.int .i64 x.s) ∧
    w.cell? ⟨r, 2, none⟩ = some (.int .i64 b) ∧ w.cell? ⟨r, 3, none⟩ = some (.int .i64 t) ∧ w.cell? ⟨r, 4, none⟩ = some (.int .i64 p) ∧ w.cell? ⟨r, 5, none⟩ = some (.int .i64 s) :=
  ⟨h.wd.c1.trans (by rw [hi]), h.wd.c2, h.wd.c3, h.wd.c4, h.wd.c5, h.six.c2, h.six.c3, h.six.c4, h.six.c5⟩
end

/-- What Unders asks of one word of the list. -/
def ovB (b t p s : Int) (y : Wd) : Bool := y.i && covB y.b y.t y.p y.s b t p s
/-- What Unders answers. -/
def undB (i : Bool) (b t p s : Int) (L : List Wd) : Bool := !i || L.any (ovB b t p s)

theorem any_take {α : Type} (f : α → Bool) {L : List α} {k : Nat} {x : α} (h : L[k]? = some x) (h0 : (L.take k).any f = false) (h1 : f x = false) : (L.take (k + 1)).any f = false := by
  rw [List.take_add_one, h]; simp [h0, h1]
theorem any_at {α : Type} (f : α → Bool) {L : List α} {k : Nat} {x : α} (h : L[k]? = some x) (h1 : f x = true) : L.any f = true :=
  List.any_eq_true.2 ⟨x, List.mem_of_getElem? h, h1⟩
theorem any_all {α : Type} (f : α → Bool) {L : List α} {k : Nat} (h : L.length ≤ k) (h0 : (L.take k).any f = false) : L.any f = false := by
  rwa [List.take_of_length_le h] at h0

end Go.Proofs.YtpkhnajhamnggaaGreatDoor

namespace Go.Proofs.YtpkhnajhamnggaaGreatDoor
open Go.ChangeShapes Go.WideShapes Go.ChangeAt Go.RowKit

/-- The cells of a word. -/
def Wd.vs (x : Wd) : List Value := [.int .i64 x.n, .bool x.i, .int .i64 x.b, .int .i64 x.t, .int .i64 x.p, .int .i64 x.s]

/-- A row of len words in block q, which may be written; the first k are those of L. -/
structure OutW (w : World) (q len k : Nat) (L : List Wd) : Prop where
  lt : q < w.heap.size
  has : ∀ i, i < len * 6 → (w.cell? ⟨q, i, none⟩).isSome = true
  fr : ∀ i, i < len * 6 → w.frozen? ⟨q, i, none⟩ = false
  wd : ∀ j x, j < k → L[j]? = some x → WordAt w q (j * 6) x

theorem OutW.below {w w' : World} {q len k : Nat} {L : List Wd} (h : OutW w q len k L) (hb : Below w.heap.size w w') : OutW w' q len k L :=
  ⟨Nat.lt_of_lt_of_le h.lt hb.size, fun i hi => by rw [hb.cell (p := ⟨q, i, none⟩) h.lt]; exact h.has i hi,
    fun i hi => by rw [(KeepBut.ofBelow (q := w.heap.size) hb).frozen (p := ⟨q, i, none⟩) h.lt (Nat.ne_of_lt h.lt)]; exact h.fr i hi, fun j x hj hx => (h.wd j x hj hx).keep hb h.lt⟩

theorem WordAt.of_vs {w : World} {q o : Nat} {x : Wd} (h : ∀ j v, x.vs[j]? = some v → w.cell? ⟨q, o + j, none⟩ = some v) : WordAt w q o x :=
  ⟨h 0 _ rfl, h 1 _ rfl, h 2 _ rfl, h 3 _ rfl, h 4 _ rfl, h 5 _ rfl⟩
theorem WordAt.vs {w : World} {q o : Nat} {x : Wd} (h : WordAt w q o x) : ∀ j v, x.vs[j]? = some v → w.cell? ⟨q, o + j, none⟩ = some v := by
  intro j v hj
  match j, hj with
  | 0, hj => cases hj; exact h.c0
  | 1, hj => cases hj; exact h.c1
  | 2, hj => cases hj; exact h.c2
  | 3, hj => cases hj; exact h.c3
  | 4, hj => cases hj; exact h.c4
  | 5, hj => cases hj; exact h.c5
  | j + 6, hj => simp [Wd.vs] at hj

theorem OutW.set {w : World} {q len k : Nat} {L : List Wd} {x : Wd} (h : OutW w q len k L) (hk : k < len) (hx : L[k]? = some x) : OutW (w.setCells q (k * 6) x.vs) q len (k + 1) L := by
  have hl : x.vs.length = 6 := rfl
  have out : ∀ i, (i < k * 6 ∨ k * 6 + 6 ≤ i) → (w.setCells q (k * 6) x.vs).cell? ⟨q, i, none⟩ = w.cell? ⟨q, i, none⟩ := fun i hi =>
    World.cell?_setCells_out q x.vs (k * 6) w ⟨q, i, none⟩ (fun _ _ => by rw [hl]; exact hi)
  have inn : ∀ j (hj : j < x.vs.length), (w.setCells q (k * 6) x.vs).cell? ⟨q, k * 6 + j, none⟩ = some x.vs[j] :=
    World.cell?_setCells_in q x.vs (k * 6) w (fun j hj => h.has _ (by rw [hl] at hj; omega))
  refine ⟨?_, fun i hi => ?_, fun i hi => ?_, fun j y hj hy => ?_⟩
  · have := h.lt
    simp only [Wd.vs, World.setCells, World.size_setCell]
    exact this
  · by_cases hio : i < k * 6 ∨ k * 6 + 6 ≤ i
    · rw [out i hio]; exact h.has i hi
    · have := inn (i - k * 6) (by rw [hl]; omega)
      rw [show k * 6 + (i - k * 6) = i by omega] at this
      rw [this]; rfl
  · rw [World.frozen?_setCells]; exact h.fr i hi
  · by_cases hjk : j < k
    · refine WordAt.of_vs fun m v hm => ?_
      have hm6 : m < 6 := (List.getElem?_eq_some_iff.1 hm).1
      rw [out _ (by omega)]
      exact (h.wd j y hjk hy).vs m v hm
    · obtain rfl : j = k := by omega
      obtain rfl : x = y := by rw [hx] at hy; exact Option.some.inj hy
      refine WordAt.of_vs fun m v hm => ?_
      obtain ⟨hm6, rfl⟩ := List.getElem?_eq_some_iff.1 hm
      exact inn m hm6

theorem OutW.slice {w : World} {q len : Nat} {L : List Wd} (h : OutW w q len len L) (hl : L.length = len) (hm : len ≤ maxLen) : SliceW w.heap.size w (some ⟨q, 0, none⟩) len L :=
  ⟨hm, hl, .inr ⟨q, 0, rfl, h.lt, fun j x hj => by
    have hj' := (List.getElem?_eq_some_iff.1 hj).1
    rw [Nat.zero_add]
    exact h.wd j x (by omega) hj⟩⟩

/-- A word in block r, a slice of words that was there at first, and nothing that was there turned. -/
structure Une (w0 : World) (r : Nat) (n : Int) (i : Bool) (b t p s : Int) (a : Option Addr) (len : Nat) (L : List Wd) (w : World) : Prop where
  six : Six w r n i b t p s
  sl : SliceW w0.heap.size w a len L
  bel : Below w0.heap.size w0 w
theorem Une.next {w0 w w' : World} {r : Nat} {n : Int} {i : Bool} {b t p s : Int} {a : Option Addr} {len : Nat} {L : List Wd} (h : Une w0 r n i b t p s a len L w) (hb : Below w.heap.size w w') : Une w0 r n i b t p s a len L w' :=
  ⟨h.six.below hb, h.sl.keep (hb.mono h.bel.size), h.bel.trans (hb.mono h.bel.size)⟩

theorem infoW : (Tryz.prog.info? 38).map (fun i => (i.zero, i.size, i.bytes)) = some (some (.agg #[.int .i64 0, .bool false, .int .i64 0, .int .i64 0, .int .i64 0, .int .i64 0]), 6, 48) := by kernel_rfl

theorem made_out (w : World) (len : Nat) (z : Array Value) (T : TypeId) (L : List Wd) : OutW (w.alloc (.cells (madeCells z (len * 6)) T)) w.heap.size len 0 L :=
  ⟨by simp, fun i hi => by rw [World.cell?_alloc_new]; simp [madeCells, hi], fun i _ => by simp, fun j _ hj => absurd hj (Nat.not_lt_zero _)⟩

theorem run_makeWords (len : Nat) (hl : len ≤ 1048576) (w : World) :
    (Instr.makeSlice 35 (.int .i64 (len : Int)) (.int .i64 (len : Int))).run Tryz.prog w = .ok (.slice (some ⟨w.heap.size, 0, none⟩) len len) (w.alloc (.cells (madeCells #[.int .i64 0, .bool false, .int .i64 0, .int .i64 0, .int .i64 0, .int .i64 0] (len * 6)) 38)) := by
  obtain ⟨i, hi, h0, h1, h2⟩ := info_parts infoW
  have := run_makeSlice (w := w) 35 38 i _ Tryz.underlying35 hi h0 .i64 .i64 (len : Int) (len : Int) (by omega) (by omega) (by rw [h1]; simp; omega) (by rw [h2]; omega) (by omega)
  rw [this, h1]
  simp [Value.cells]

set_option maxRecDepth 100000 in
set_option maxHeartbeats 2000000 in
theorem toWordS_own (a : Option Addr) (len cap : Nat) (L : List Wd) (w : World) (hl : len ≤ 1048576) (hS : SliceW w.heap.size w a len L) :
    Calls Tryz.prog 38 #[.slice a len cap] w fun e w' => ∃ q, e = .returned (.slice (some ⟨q, 0, none⟩) len len) ∧ w.heap.size ≤ q ∧ OutW w' q len len L ∧ Below w.heap.size w w' := by
  have S : Hid (SliceW w.heap.size w a len L) := hS
  have hmk := run_makeWords len hl
  have hL := hS.2.1
  clear hS
  go_enter Tryz.func38, Tryz.ntmps38
  go_wp2
  go_loopw [4] (fun c wr => ∃ k : Nat, k ≤ len ∧ c = .int .i64 k ∧ Hid (OutW wr w.heap.size len k L) ∧ Hid (Below w.heap.size w wr)) (fun c _ => len - (intOf c).toNat)
  case atStart => exact ⟨0, Nat.zero_le _, rfl, made_out _ _ _ _ _, (Below.refl _ _).alloc (Nat.le_refl _) _⟩
  case round =>
    clear hmk
    obtain ⟨k, hk, rfl, hO, hB⟩ := hrel
    by_cases hlt : k < len
    · obtain ⟨kb, o, x, rfl, hkb, hx, hat⟩ := (S.out.keep hB.out).at hlt
      have zB := hB.out.size
      have hX' : Hid _ := hx
      obtain ⟨d0, d1, d2, d3, d4, d5⟩ := hat
      clear hx
      go_wp2_with fail
      refine (toWord_any x.n x.i x.b x.t x.p x.s _).mono ?_
      rintro e w1 ⟨rfl, hb1⟩
      have O1 : Hid (OutW w1 w.heap.size len k L) := hO.out.below hb1
      have K1 : Hid (Below w.heap.size w w1) := hB.out.trans (hb1.mono zB)
      clear hb1 d0 d1 d2 d3 d4 d5
      obtain ⟨v0, e0⟩ := Option.isSome_iff_exists.1 (O1.out.has (k * 6) (by omega))
      obtain ⟨v1, e1⟩ := Option.isSome_iff_exists.1 (O1.out.has (k * 6 + 1) (by omega))
      obtain ⟨v2, e2⟩ := Option.isSome_iff_exists.1 (O1.out.has (k * 6 + 2) (by omega))
      obtain ⟨v3, e3⟩ := Option.isSome_iff_exists.1 (O1.out.has (k * 6 + 3) (by omega))
      obtain ⟨v4, e4⟩ := Option.isSome_iff_exists.1 (O1.out.has (k * 6 + 4) (by omega))
      obtain ⟨v5, e5⟩ := Option.isSome_iff_exists.1 (O1.out.has (k * 6 + 5) (by omega))
      have f0 := O1.out.fr (k * 6) (by omega)
      have f1 := O1.out.fr (k * 6 + 1) (by omega)
      have f2 := O1.out.fr (k * 6 + 2) (by omega)
      have f3 := O1.out.fr (k * 6 + 3) (by omega)
      have f4 := O1.out.fr (k * 6 + 4) (by omega)
      have f5 := O1.out.fr (k * 6 + 5) (by omega)
      go_wp2
      go_roundw
      case rel =>
        refine ⟨k + 1, hlt, by go_num, O1.out.set hlt hX'.out, hid_mk ?_⟩
        repeat' (first | (with_reducible exact K1.out) | (refine Below.setCell ?_ (by show w.heap.size ≤ w.heap.size; exact Nat.le_refl _) _))
      case measure => simp [intOf]; omega
    · obtain rfl : k = len := by omega
      go_wp2
      go_ret
      exact ⟨_, rfl, Nat.le_refl _, hO.out, hB.out⟩
theorem toWordS_any (a : Option Addr) (len cap : Nat) (L : List Wd) (w : World) (hl : len ≤ 1048576) (hS : SliceW w.heap.size w a len L) :
    Calls Tryz.prog 38 #[.slice a len cap] w fun e w' => ∃ q, e = .returned (.slice (some ⟨q, 0, none⟩) len len) ∧ SliceW w'.heap.size w' (some ⟨q, 0, none⟩) len L ∧ Below w.heap.size w w' :=
  (toWordS_own a len cap L w hl hS).mono fun _ _ ⟨q, he, _, ho, hb⟩ => ⟨q, he, ho.slice hS.2.1 (by unfold maxLen; omega), hb⟩

/-- A word in two places, beside what was there at first. -/
structure Two6 (w0 w : World) (k o k' o' : Nat) (x : Wd) : Prop where
  a : WordAt w k o x
  b : WordAt w k' o' x
  bel : Below w0.heap.size w0 w
  lt : k < w.heap.size
  lt' : k' < w.heap.size
section
variable {w0 w w' : World} {k o k' o' : Nat} {x : Wd}
theorem Two6.next (h : Two6 w0 w k o k' o' x) (hb : Below w.heap.size w w') : Two6 w0 w' k o k' o' x :=
  ⟨h.a.keep hb h.lt, h.b.keep hb h.lt', h.bel.trans (hb.mono h.bel.size), Nat.lt_of_lt_of_le h.lt hb.size, Nat.lt_of_lt_of_le h.lt' hb.size⟩
theorem Two6.drew (h : Two6 w0 w k o k' o' x) : Two6 w0 w.drew k o k' o' x := h.next ((Below.refl _ _).drew)
theorem Two6.all (h : Two6 w0 w k o k' o' x) :
    w.cell? ⟨k, o, none⟩ = some (.int .i64 x.n) ∧ w.cell? ⟨k, o + 1, none⟩ = some (.bool x.i) ∧ w.cell? ⟨k, o + 2, none⟩ = some (.int .i64 x.b) ∧ w.cell? ⟨k, o + 3, none⟩ = some (.int .i64 x.t) ∧ w.cell? ⟨k, o + 4, none⟩ = some (.int .i64 x.p) ∧ w.cell? ⟨k, o + 5, none⟩ = some (.int .i64 x.s) ∧ w.cell? ⟨k', o', none⟩ = some (.int .i64 x.n) ∧ w.cell? ⟨k', o' + 1, none⟩ = some (.bool x.i) ∧ w.cell? ⟨k', o' + 2, none⟩ = some (.int .i64 x.b) ∧ w.cell? ⟨k', o' + 3, none⟩ = some (.int .i64 x.t) ∧ w.cell? ⟨k', o' + 4, none⟩ = some (.int .i64 x.p) ∧ w.cell? ⟨k', o' + 5, none⟩ = some (.int .i64 x.s) :=
  ⟨h.a.c0, h.a.c1, h.a.c2, h.a.c3, h.a.c4, h.a.c5, h.b.c0, h.b.c1, h.b.c2, h.b.c3, h.b.c4, h.b.c5⟩
end

set_option maxRecDepth 100000 in
set_option maxHeartbeats 2000000 in
theorem eqWordS_same (a a' : Option Addr) (len cap cap' : Nat) (L : List Wd) (w : World) (hS : SliceW w.heap.size w a len L) (hS' : SliceW w.heap.size w a' len L) :
    Calls Tryz.prog 44 #[.slice a len cap, .slice a' len cap'] w fun e w' => e = .returned (.bool true) ∧ Below w.heap.size w w' := by
  have S : Hid (SliceW w.heap.size w a len L) := hS
  have S' : Hid (SliceW w.heap.size w a' len L) := hS'
  have hlen := hS.1
  unfold maxLen at hlen
  clear hS hS'
  go_enter Tryz.func44, Tryz.ntmps44
  go_wp2
  go_loopw [5] (fun c wr => ∃ k : Nat, k ≤ len ∧ c = .int .i64 k ∧ Hid (Below w.heap.size w wr)) (fun c _ => len - (intOf c).toNat)
  case atStart => exact ⟨0, Nat.zero_le _, rfl, Below.refl _ _⟩
  case round =>
    obtain ⟨k, hk, rfl, hB⟩ := hrel
    by_cases hlt : k < len
    · obtain ⟨kb, o, x, rfl, hkb, hx, hat⟩ := (S.out.keep hB.out).at hlt
      obtain ⟨kb', o', x', rfl, hkb', hx', hat'⟩ := (S'.out.keep hB.out).at hlt
      obtain rfl : x = x' := by rw [hx] at hx'; exact Option.some.inj hx'
      have zB := hB.out.size
      have P0 : Hid (Two6 w wr kb (o + k * 6) kb' (o' + k * 6) x) := ⟨hat, hat', hB.out, by omega, by omega⟩
      obtain ⟨d0, d1, d2, d3, d4, d5⟩ := hat
      obtain ⟨e0, e1, e2, e3, e4, e5⟩ := hat'
      clear hx hx'
      go_wp2_with fail
      have D0 : Hid _ := P0.out.drew
      go_region_held3 (fun w' => w'.cell? ⟨kb, o + k * 6, none⟩ = some (.int .i64 x.n) ∧ w'.cell? ⟨kb, o + k * 6 + 1, none⟩ = some (.bool x.i) ∧ w'.cell? ⟨kb, o + k * 6 + 2, none⟩ = some (.int .i64 x.b) ∧ w'.cell? ⟨kb, o + k * 6 + 3, none⟩ = some (.int .i64 x.t) ∧ w'.cell? ⟨kb, o + k * 6 + 4, none⟩ = some (.int .i64 x.p) ∧ w'.cell? ⟨kb, o + k * 6 + 5, none⟩ = some (.int .i64 x.s) ∧ w'.cell? ⟨kb', o' + k * 6, none⟩ = some (.int .i64 x.n) ∧ w'.cell? ⟨kb', o' + k * 6 + 1, none⟩ = some (.bool x.i) ∧ w'.cell? ⟨kb', o' + k * 6 + 2, none⟩ = some (.int .i64 x.b) ∧ w'.cell? ⟨kb', o' + k * 6 + 3, none⟩ = some (.int .i64 x.t) ∧ w'.cell? ⟨kb', o' + k * 6 + 4, none⟩ = some (.int .i64 x.p) ∧ w'.cell? ⟨kb', o' + k * 6 + 5, none⟩ = some (.int .i64 x.s)) (first | (with_reducible exact D0.out.all) | (with_reducible exact P1.out.all) | fail)
        (first
          | (go_at_call 45; refine (eqWord_same x.n x.i x.b x.t x.p x.s _).mono ?_; rintro e w1 ⟨rfl, hb1⟩; have P1 : Hid _ := D0.out.next hb1; clear hb1))
      clear d0 d1 d2 d3 d4 d5 e0 e1 e2 e3 e4 e5 P0 D0 hB
      go_wp2
      go_roundw
      case rel => exact ⟨k + 1, hlt, by go_num, P1.out.bel⟩
      case measure => simp [intOf]; omega
    · go_wp2
      go_ret
      exact ⟨rfl, hB.out⟩

set_option maxHeartbeats 400000 in
theorem szWordS_any (a : Option Addr) (len cap : Nat) (w : World) (hl : len ≤ maxLen) :
    Calls Tryz.prog 29 #[.slice a len cap, .int .i64 1048576] w fun e w' => e = .returned (.int .i64 (if len ≤ 1048576 then 1048576 - (len : Int) else -1)) ∧ w' = w := by
  unfold maxLen at hl
  by_cases h : len ≤ 1048576
  · rw [if_pos h]
    go_enter Tryz.func29, Tryz.ntmps29
    go_wp2
    go_ret
    exact ⟨rfl, rfl⟩
  · rw [if_neg h]
    go_enter Tryz.func29, Tryz.ntmps29
    go_wp2
    go_ret
    exact ⟨rfl, rfl⟩
end Go.Proofs.YtpkhnajhamnggaaGreatDoor

namespace Go.Proofs.YtpkhnajhamnggaaGreatDoor
open Go.ChangeShapes Go.WideShapes Go.ChangeAt Go.RowKit

/-- A slice of the bools L, in a block below B. -/
def SliceB (B : Nat) (w : World) (a : Option Addr) (len : Nat) (L : List Bool) : Prop :=
  len ≤ maxLen ∧ L.length = len ∧ (len = 0 ∨ ∃ k o, a = some ⟨k, o, none⟩ ∧ k < B ∧ ∀ j x, L[j]? = some x → w.cell? ⟨k, o + j, none⟩ = some (.bool x))
theorem SliceB.keep {B : Nat} {w w' : World} {a : Option Addr} {len : Nat} {L : List Bool} (h : SliceB B w a len L) (hb : Below B w w') : SliceB B w' a len L := by
  refine ⟨h.1, h.2.1, ?_⟩
  rcases h.2.2 with h0 | ⟨k, o, ha, hk, hc⟩
  · exact .inl h0
  · exact .inr ⟨k, o, ha, hk, fun j x hj => (hb.cell (p := ⟨k, o + j, none⟩) hk).trans (hc j x hj)⟩
theorem SliceB.mono {B C : Nat} {w : World} {a : Option Addr} {len : Nat} {L : List Bool} (h : SliceB B w a len L) (hB : B ≤ C) : SliceB C w a len L := by
  refine ⟨h.1, h.2.1, ?_⟩
  rcases h.2.2 with h0 | ⟨k, o, ha, hk, hc⟩
  · exact .inl h0
  · exact .inr ⟨k, o, ha, by omega, hc⟩
theorem SliceB.at {B : Nat} {w : World} {a : Option Addr} {len : Nat} {L : List Bool} (h : SliceB B w a len L) {j : Nat} (hj : j < len) :
    ∃ k o x, a = some ⟨k, o, none⟩ ∧ k < B ∧ L[j]? = some x ∧ w.cell? ⟨k, o + j, none⟩ = some (.bool x) := by
  rcases h.2.2 with h0 | ⟨k, o, ha, hk, hc⟩
  · omega
  · have hl : j < L.length := by rw [h.2.1]; exact hj
    exact ⟨k, o, L[j], ha, hk, List.getElem?_eq_getElem hl, hc j _ (List.getElem?_eq_getElem hl)⟩

/-- A row of len bools in block q, which may be written; the first k are those of L. -/
structure OutB (w : World) (q len k : Nat) (L : List Bool) : Prop where
  lt : q < w.heap.size
  has : ∀ i, i < len → (w.cell? ⟨q, i, none⟩).isSome = true
  fr : ∀ i, i < len → w.frozen? ⟨q, i, none⟩ = false
  wd : ∀ j x, j < k → L[j]? = some x → w.cell? ⟨q, j, none⟩ = some (.bool x)
theorem OutB.keepB {w w' : World} {q len k b : Nat} {L : List Bool} (h : OutB w q len k L) (g : KeepBut b w w') (hb : q ≠ b) : OutB w' q len k L :=
  ⟨Nat.lt_of_lt_of_le h.lt g.size, fun i hi => by rw [g.cell (p := ⟨q, i, none⟩) h.lt hb]; exact h.has i hi, fun i hi => by rw [g.frozen (p := ⟨q, i, none⟩) h.lt hb]; exact h.fr i hi, fun j x hj hx => (g.cell (p := ⟨q, j, none⟩) h.lt hb).trans (h.wd j x hj hx)⟩
theorem OutB.below {w w' : World} {q len k : Nat} {L : List Bool} (h : OutB w q len k L) (hb : Below w.heap.size w w') : OutB w' q len k L :=
  h.keepB (b := w.heap.size) (KeepBut.ofBelow hb) (Nat.ne_of_lt h.lt)
theorem OutB.set {w : World} {q len k : Nat} {L : List Bool} {x : Bool} (h : OutB w q len k L) (hk : k < len) (hx : L[k]? = some x) : OutB (w.setCell ⟨q, k, none⟩ (.bool x)) q len (k + 1) L := by
  obtain ⟨v0, e0⟩ := Option.isSome_iff_exists.1 (h.has k hk)
  have inn : (w.setCell ⟨q, k, none⟩ (.bool x)).cell? ⟨q, k, none⟩ = some (.bool x) := World.cell?_setCells_in q [.bool x] k w (fun j hj => by
    simp at hj
    subst hj
    exact h.has k hk) 0 (by simp)
  have out : ∀ i, i ≠ k → (w.setCell ⟨q, k, none⟩ (.bool x)).cell? ⟨q, i, none⟩ = w.cell? ⟨q, i, none⟩ := fun i hi =>
    World.cell?_setCells_out q [.bool x] k w ⟨q, i, none⟩ (fun _ _ => by simp; omega)
  refine ⟨by rw [World.size_setCell]; exact h.lt, fun i hi => ?_, fun i hi => ?_, fun j y hj hy => ?_⟩
  · by_cases hik : i = k
    · subst hik; rw [inn]; rfl
    · rw [out i hik]; exact h.has i hi
  · have := World.frozen?_setCells (w := w) q [.bool x] k ⟨q, i, none⟩
    exact this.trans (h.fr i hi)
  · by_cases hjk : j = k
    · subst hjk
      obtain rfl : x = y := by rw [hx] at hy; exact Option.some.inj hy
      exact inn
    · rw [out j hjk]; exact h.wd j y (by omega) hy
theorem OutB.slice {w : World} {q len : Nat} {L : List Bool} (h : OutB w q len len L) (hl : L.length = len) (hm : len ≤ maxLen) : SliceB w.heap.size w (some ⟨q, 0, none⟩) len L :=
  ⟨hm, hl, .inr ⟨q, 0, rfl, h.lt, fun j x hj => by
    have hj' := (List.getElem?_eq_some_iff.1 hj).1
    rw [Nat.zero_add]
    exact h.wd j x (by omega) hj⟩⟩

theorem infoB : (Tryz.prog.info? 4).map (fun i => (i.zero, i.size, i.bytes)) = some (some (.bool false), 1, 1) := by kernel_rfl
theorem made_outB (w : World) (len : Nat) (z : Array Value) (T : TypeId) (L : List Bool) : OutB (w.alloc (.cells (madeCells z len) T)) w.heap.size len 0 L :=
  ⟨by simp, fun i hi => by rw [World.cell?_alloc_new]; simp [madeCells, hi], fun i _ => by simp, fun j _ hj => absurd hj (Nat.not_lt_zero _)⟩
theorem run_makeBools (len : Nat) (hl : len ≤ 1048576) (w : World) :
    (Instr.makeSlice 28 (.int .i64 (len : Int)) (.int .i64 (len : Int))).run Tryz.prog w = .ok (.slice (some ⟨w.heap.size, 0, none⟩) len len) (w.alloc (.cells (madeCells #[.bool false] len) 4)) := by
  obtain ⟨i, hi, h0, h1, h2⟩ := info_parts infoB
  have := run_makeSlice (w := w) 28 4 i _ Tryz.underlying28 hi h0 .i64 .i64 (len : Int) (len : Int) (by omega) (by omega) (by rw [h1]; simp; omega) (by rw [h2]; omega) (by omega)
  rw [this, h1]
  simp [Value.cells]

set_option maxRecDepth 100000 in
set_option maxHeartbeats 2000000 in
theorem toBoolS_own (a : Option Addr) (len cap : Nat) (L : List Bool) (w : World) (hl : len ≤ 1048576) (hS : SliceB w.heap.size w a len L) :
    Calls Tryz.prog 84 #[.slice a len cap] w fun e w' => ∃ q, e = .returned (.slice (some ⟨q, 0, none⟩) len len) ∧ w.heap.size ≤ q ∧ OutB w' q len len L ∧ Below w.heap.size w w' := by
  have S : Hid (SliceB w.heap.size w a len L) := hS
  have hmk := run_makeBools len hl
  have hL := hS.2.1
  clear hS
  go_enter Tryz.func84, Tryz.ntmps84
  go_wp2
  go_loopw [4] (fun c wr => ∃ k : Nat, k ≤ len ∧ c = .int .i64 k ∧ Hid (OutB wr w.heap.size len k L) ∧ Hid (Below w.heap.size w wr)) (fun c _ => len - (intOf c).toNat)
  case atStart => exact ⟨0, Nat.zero_le _, rfl, made_outB _ _ _ _ _, (Below.refl _ _).alloc (Nat.le_refl _) _⟩
  case round =>
    clear hmk
    obtain ⟨k, hk, rfl, hO, hB⟩ := hrel
    by_cases hlt : k < len
    · obtain ⟨kb, o, x, rfl, hkb, hx, d0⟩ := (S.out.keep hB.out).at hlt
      have zB := hB.out.size
      obtain ⟨v0, e0⟩ := Option.isSome_iff_exists.1 (hO.out.has k hlt)
      have f0 := hO.out.fr k hlt
      have O1 := hid_mk (hO.out.set hlt hx)
      have K1 : Hid (Below w.heap.size w (wr.setCell ⟨w.heap.size, k, none⟩ (.bool x))) := Below.setCell hB.out (Nat.le_refl _) _
      clear hx
      go_wp2
      go_roundw
      case rel => exact ⟨k + 1, hlt, by go_num, O1.out, K1.out⟩
      case measure => simp [intOf]; omega
    · obtain rfl : k = len := by omega
      go_wp2
      go_ret
      exact ⟨_, rfl, Nat.le_refl _, hO.out, hB.out⟩

set_option maxRecDepth 100000 in
set_option maxHeartbeats 2000000 in
theorem eqBoolS_same (a a' : Option Addr) (len cap cap' : Nat) (L : List Bool) (w : World) (hS : SliceB w.heap.size w a len L) (hS' : SliceB w.heap.size w a' len L) :
    Calls Tryz.prog 97 #[.slice a len cap, .slice a' len cap'] w fun e w' => e = .returned (.bool true) ∧ Below w.heap.size w w' := by
  have S : Hid (SliceB w.heap.size w a len L) := hS
  have S' : Hid (SliceB w.heap.size w a' len L) := hS'
  have hlen := hS.1
  unfold maxLen at hlen
  clear hS hS'
  go_enter Tryz.func97, Tryz.ntmps97
  go_wp2
  go_loopw [5] (fun c wr => ∃ k : Nat, k ≤ len ∧ c = .int .i64 k ∧ Hid (Below w.heap.size w wr)) (fun c _ => len - (intOf c).toNat)
  case atStart => exact ⟨0, Nat.zero_le _, rfl, Below.refl _ _⟩
  case round =>
    obtain ⟨k, hk, rfl, hB⟩ := hrel
    by_cases hlt : k < len
    · obtain ⟨kb, o, x, rfl, hkb, hx, d0⟩ := (S.out.keep hB.out).at hlt
      obtain ⟨kb', o', x', rfl, hkb', hx', d1⟩ := (S'.out.keep hB.out).at hlt
      obtain rfl : x = x' := by rw [hx] at hx'; exact Option.some.inj hx'
      have hxx : (x != x) = false := by simp
      have D0 : Hid (Below w.heap.size w wr.drew) := hB.out.drew
      clear hx hx'
      go_wp2_with fail
      go_region
      all_goals
        go_wp2
        go_roundw
        case rel => exact ⟨k + 1, hlt, by go_num, D0.out⟩
        case measure => simp [intOf]; omega
    · go_wp2
      go_ret
      exact ⟨rfl, hB.out⟩

set_option maxHeartbeats 400000 in
theorem szBoolS_any (a : Option Addr) (len cap : Nat) (m : Int) (hm0 : 0 ≤ m) (hm1 : m ≤ 1048576) (w : World) (hl : len ≤ maxLen) :
    Calls Tryz.prog 71 #[.slice a len cap, .int .i64 m] w fun e w' => e = .returned (.int .i64 (if (len : Int) ≤ m then m - (len : Int) else -1)) ∧ w' = w := by
  unfold maxLen at hl
  by_cases h : (len : Int) ≤ m
  · rw [if_pos h]
    go_enter Tryz.func71, Tryz.ntmps71
    go_wp2
    go_ret
    exact ⟨rfl, rfl⟩
  · rw [if_neg h]
    go_enter Tryz.func71, Tryz.ntmps71
    go_wp2
    go_ret
    exact ⟨rfl, rfl⟩
end Go.Proofs.YtpkhnajhamnggaaGreatDoor

namespace Go.Proofs.YtpkhnajhamnggaaGreatDoor
open Go.ChangeShapes Go.WideShapes Go.ChangeAt Go.RowKit
set_option maxRecDepth 100000

/-- A row of len words in block q from cell o on, which may be written; the first k are those of L. -/
structure RowW (w : World) (q o len k : Nat) (L : List Wd) : Prop where
  lt : q < w.heap.size
  has : ∀ i, i < len * 6 → (w.cell? ⟨q, o + i, none⟩).isSome = true
  fr : ∀ i, i < len * 6 → w.frozen? ⟨q, o + i, none⟩ = false
  wd : ∀ j x, j < k → L[j]? = some x → WordAt w q (o + j * 6) x
theorem OutW.row {w : World} {q len k : Nat} {L : List Wd} (h : OutW w q len k L) : RowW w q 0 len k L :=
  ⟨h.lt, fun i hi => by rw [Nat.zero_add]; exact h.has i hi, fun i hi => by rw [Nat.zero_add]; exact h.fr i hi, fun j x hj hx => by rw [Nat.zero_add]; exact h.wd j x hj hx⟩
theorem RowW.keepB {w w' : World} {q o len k b : Nat} {L : List Wd} (h : RowW w q o len k L) (g : KeepBut b w w') (hb : q ≠ b) : RowW w' q o len k L :=
  ⟨Nat.lt_of_lt_of_le h.lt g.size, fun i hi => by rw [g.cell (p := ⟨q, o + i, none⟩) h.lt hb]; exact h.has i hi, fun i hi => by rw [g.frozen (p := ⟨q, o + i, none⟩) h.lt hb]; exact h.fr i hi, fun j x hj hx => by
    refine WordAt.of_vs fun m v hm => ?_
    exact (g.cell (p := ⟨q, o + j * 6 + m, none⟩) h.lt hb).trans ((h.wd j x hj hx).vs m v hm)⟩
theorem RowW.below {w w' : World} {q o len k : Nat} {L : List Wd} (h : RowW w q o len k L) (hb : Below w.heap.size w w') : RowW w' q o len k L :=
  h.keepB (b := w.heap.size) (KeepBut.ofBelow hb) (Nat.ne_of_lt h.lt)
theorem RowW.first {w : World} {q o len k : Nat} {L : List Wd} (h : RowW w q o len k L) (M : List Wd) : RowW w q o len 0 M := ⟨h.lt, h.has, h.fr, fun _ _ hj => absurd hj (Nat.not_lt_zero _)⟩
theorem RowW.slice {w : World} {q o len : Nat} {L : List Wd} (h : RowW w q o len len L) (hl : L.length = len) (hm : len ≤ maxLen) : SliceW w.heap.size w (some ⟨q, o, none⟩) len L :=
  ⟨hm, hl, .inr ⟨q, o, rfl, h.lt, fun j x hj => h.wd j x (by have := (List.getElem?_eq_some_iff.1 hj).1; omega) hj⟩⟩
theorem RowW.set {w : World} {q o len k : Nat} {L : List Wd} {x : Wd} (h : RowW w q o len k L) (hk : k < len) (hx : L[k]? = some x) : RowW (w.setCells q (o + k * 6) x.vs) q o len (k + 1) L := by
  have hl : x.vs.length = 6 := rfl
  have out : ∀ i, (i < o + k * 6 ∨ o + k * 6 + 6 ≤ i) → (w.setCells q (o + k * 6) x.vs).cell? ⟨q, i, none⟩ = w.cell? ⟨q, i, none⟩ := fun i hi =>
    World.cell?_setCells_out q x.vs (o + k * 6) w ⟨q, i, none⟩ (fun _ _ => by rw [hl]; exact hi)
  have inn : ∀ j (hj : j < x.vs.length), (w.setCells q (o + k * 6) x.vs).cell? ⟨q, o + k * 6 + j, none⟩ = some x.vs[j] :=
    World.cell?_setCells_in q x.vs (o + k * 6) w (fun j hj => by
      have := h.has (k * 6 + j) (by rw [hl] at hj; omega)
      rwa [← Nat.add_assoc] at this)
  refine ⟨?_, fun i hi => ?_, fun i hi => ?_, fun j y hj hy => ?_⟩
  · have := h.lt
    simp only [Wd.vs, World.setCells, World.size_setCell]
    exact this
  · by_cases hio : o + i < o + k * 6 ∨ o + k * 6 + 6 ≤ o + i
    · rw [out _ hio]; exact h.has i hi
    · have := inn (i - k * 6) (by rw [hl]; omega)
      rw [show o + k * 6 + (i - k * 6) = o + i by omega] at this
      rw [this]; rfl
  · rw [World.frozen?_setCells]; exact h.fr i hi
  · by_cases hjk : j < k
    · refine WordAt.of_vs fun m v hm => ?_
      have hm6 : m < 6 := (List.getElem?_eq_some_iff.1 hm).1
      rw [out _ (by omega)]
      exact (h.wd j y hjk hy).vs m v hm
    · obtain rfl : j = k := by omega
      obtain rfl : x = y := by rw [hx] at hy; exact Option.some.inj hy
      refine WordAt.of_vs fun m v hm => ?_
      obtain ⟨hm6, rfl⟩ := List.getElem?_eq_some_iff.1 hm
      exact inn m hm6

/-- The word that is marked from m on. -/
def markWd (m : Int) : Wd := ⟨m, (m + 1) % 3 == 0, m + 1 + 1, m + 1 + 1 + 1, m + 1 + 1 + 1 + 1, m + 1 + 1 + 1 + 1 + 1⟩
/-- The marks of a list. -/
def marksW (k0 : Int) (len : Nat) : List Wd := (List.range len).map fun j : Nat => markWd (k0 + 6 * (j : Int))
theorem marksW_at {k0 : Int} {len k : Nat} (h : k < len) : (marksW k0 len)[k]? = some (markWd (k0 + 6 * (k : Int))) := by simp [marksW, h]
theorem marksW_len (k0 : Int) (len : Nat) : (marksW k0 len).length = len := by simp [marksW]

set_option maxHeartbeats 4000000 in
theorem markW_any (q o len cap : Nat) (k0 : Int) (h0 : 1 ≤ k0) (h1 : k0 ≤ 16777216) (w : World) (hl : len ≤ 1048576) (h : RowW w q o len 0 (marksW k0 len)) :
    Calls Tryz.prog 48 #[.slice (some ⟨q, o, none⟩) len cap, .int .i64 k0] w fun e w' => e = .returned (.int .i64 (k0 + 6 * (len : Int))) ∧ RowW w' q o len len (marksW k0 len) ∧ KeepBut q w w' := by
  have O0 := hid_mk h
  clear h
  go_enter Tryz.func48, Tryz.ntmps48
  go_wp2
  go_loopw [1, 5] (fun kk c wr => ∃ k : Nat, k ≤ len ∧ kk = .int .i64 (k0 + 6 * (k : Int)) ∧ c = .int .i64 (k : Int) ∧ Hid (RowW wr q o len k (marksW k0 len)) ∧ Hid (KeepBut q w wr)) (fun _ c _ => len - (intOf c).toNat)
  case atStart => exact ⟨0, Nat.zero_le _, by simp, rfl, O0.out, KeepBut.refl _ _⟩
  case round =>
    clear O0
    obtain ⟨k, hk, rfl, rfl, O, K⟩ := hrel
    by_cases hlt : k < len
    · obtain ⟨m, hm⟩ : ∃ m : Int, m = k0 + 6 * (k : Int) := ⟨_, rfl⟩
      have MX := hid_mk (marksW_at (k0 := k0) hlt)
      rw [← hm] at MX ⊢
      have hm0 : 0 ≤ m := by omega
      have hm1 : m ≤ 33554432 := by omega
      have HM := hid_mk hm
      clear hm
      obtain ⟨v0, e0⟩ := Option.isSome_iff_exists.1 (O.out.has (k * 6) (by omega))
      obtain ⟨v1, e1⟩ := Option.isSome_iff_exists.1 (O.out.has (k * 6 + 1) (by omega))
      obtain ⟨v2, e2⟩ := Option.isSome_iff_exists.1 (O.out.has (k * 6 + 2) (by omega))
      obtain ⟨v3, e3⟩ := Option.isSome_iff_exists.1 (O.out.has (k * 6 + 3) (by omega))
      obtain ⟨v4, e4⟩ := Option.isSome_iff_exists.1 (O.out.has (k * 6 + 4) (by omega))
      obtain ⟨v5, e5⟩ := Option.isSome_iff_exists.1 (O.out.has (k * 6 + 5) (by omega))
      have f0 := O.out.fr (k * 6) (by omega)
      have f1 := O.out.fr (k * 6 + 1) (by omega)
      have f2 := O.out.fr (k * 6 + 2) (by omega)
      have f3 := O.out.fr (k * 6 + 3) (by omega)
      have f4 := O.out.fr (k * 6 + 4) (by omega)
      have f5 := O.out.fr (k * 6 + 5) (by omega)
      simp only [← Nat.add_assoc] at e1 e2 e3 e4 e5 f1 f2 f3 f4 f5
      have O2 := hid_mk (O.out.set hlt MX.out)
      have K2 : Hid (KeepBut q w (wr.setCells q (o + k * 6) (markWd m).vs)) := K.out.trans (((((((KeepBut.refl q wr).setCell (o + k * 6) _).setCell (o + k * 6 + 1) _).setCell (o + k * 6 + 2) _).setCell (o + k * 6 + 3) _).setCell (o + k * 6 + 4) _).setCell (o + k * 6 + 5) _)
      go_wp2
      go_roundw
      case rel => exact ⟨k + 1, hlt, by have := HM.out; go_num, by go_num, O2.out, K2.out⟩
      case measure => simp [intOf]; omega
    · obtain rfl : k = len := by omega
      go_wp2
      go_ret
      exact ⟨rfl, O.out, K.out⟩

set_option maxHeartbeats 4000000 in
theorem heldW_any (a : Option Addr) (len cap : Nat) (k0 : Int) (h0 : 1 ≤ k0) (h1 : k0 ≤ 16777216) (w : World) (hl : len ≤ 1048576) (hS : SliceW w.heap.size w a len (marksW k0 len)) :
    Calls Tryz.prog 50 #[.slice a len cap, .int .i64 k0] w fun e w' => e = .returned (.int .i64 (k0 + 6 * (len : Int))) ∧ Below w.heap.size w w' := by
  have S := hid_mk hS
  clear hS
  go_enter Tryz.func50, Tryz.ntmps50
  go_wp2
  go_loopw [1, 5] (fun kk c wr => ∃ k : Nat, k ≤ len ∧ kk = .int .i64 (k0 + 6 * (k : Int)) ∧ c = .int .i64 (k : Int) ∧ Hid (Below w.heap.size w wr)) (fun _ c _ => len - (intOf c).toNat)
  case atStart => exact ⟨0, Nat.zero_le _, by simp, rfl, Below.refl _ _⟩
  case round =>
    obtain ⟨k, hk, rfl, rfl, B⟩ := hrel
    by_cases hlt : k < len
    · obtain ⟨kb, o, x, rfl, hkb, hx, hat⟩ := (S.out.keep B.out).at hlt
      rw [marksW_at hlt] at hx
      obtain rfl := Option.some.inj hx
      obtain ⟨d0, d1, d2, d3, d4, d5⟩ := hat
      obtain ⟨m, hm⟩ : ∃ m : Int, m = k0 + 6 * (k : Int) := ⟨_, rfl⟩
      rw [← hm] at d0 d1 d2 d3 d4 d5 ⊢
      simp only [markWd] at d0 d1 d2 d3 d4 d5
      have hm0 : 0 ≤ m := by omega
      have hm1 : m ≤ 33554432 := by omega
      have HM := hid_mk hm
      clear hm hx
      go_wp2
      go_roundw
      case rel => exact ⟨k + 1, hlt, by have := HM.out; go_num, by go_num, B.out⟩
      case measure => simp [intOf]; omega
    · obtain rfl : k = len := by omega
      go_wp2
      go_ret
      exact ⟨rfl, B.out⟩
end Go.Proofs.YtpkhnajhamnggaaGreatDoor

namespace Go.Proofs.YtpkhnajhamnggaaGreatDoor
open Go.ChangeShapes Go.WideShapes Go.ChangeAt Go.RowKit
set_option maxRecDepth 100000

theorem RowW.put {w : World} {q o len : Nat} {L : List Wd} (h : RowW w q o len len L) (hl : L.length = len) {i : Nat} (hi : i < len) (x : Wd) : RowW (w.setCells q (o + i * 6) x.vs) q o len len (L.set i x) := by
  have hv : x.vs.length = 6 := rfl
  have out : ∀ c, (c < o + i * 6 ∨ o + i * 6 + 6 ≤ c) → (w.setCells q (o + i * 6) x.vs).cell? ⟨q, c, none⟩ = w.cell? ⟨q, c, none⟩ := fun c hc =>
    World.cell?_setCells_out q x.vs (o + i * 6) w ⟨q, c, none⟩ (fun _ _ => by rw [hv]; exact hc)
  have inn : ∀ j (hj : j < x.vs.length), (w.setCells q (o + i * 6) x.vs).cell? ⟨q, o + i * 6 + j, none⟩ = some x.vs[j] :=
    World.cell?_setCells_in q x.vs (o + i * 6) w (fun j hj => by
      have := h.has (i * 6 + j) (by rw [hv] at hj; omega)
      rwa [← Nat.add_assoc] at this)
  refine ⟨?_, fun c hc => ?_, fun c hc => ?_, fun j y hj hy => ?_⟩
  · have := h.lt
    simp only [Wd.vs, World.setCells, World.size_setCell]
    exact this
  · by_cases hio : o + c < o + i * 6 ∨ o + i * 6 + 6 ≤ o + c
    · rw [out _ hio]; exact h.has c hc
    · have := inn (c - i * 6) (by rw [hv]; omega)
      rw [show o + i * 6 + (c - i * 6) = o + c by omega] at this
      rw [this]; rfl
  · rw [World.frozen?_setCells]; exact h.fr c hc
  · by_cases hji : j = i
    · subst hji
      rw [List.getElem?_set_self (by omega)] at hy
      obtain rfl : x = y := Option.some.inj hy
      refine WordAt.of_vs fun m v hm => ?_
      obtain ⟨hm6, rfl⟩ := List.getElem?_eq_some_iff.1 hm
      exact inn m hm6
    · rw [List.getElem?_set_ne (fun e => hji e.symm)] at hy
      refine WordAt.of_vs fun m v hm => ?_
      have hm6 : m < 6 := (List.getElem?_eq_some_iff.1 hm).1
      rw [out _ (by omega)]
      exact (h.wd j y hj hy).vs m v hm
theorem OutB.put {w : World} {q len : Nat} {L : List Bool} (h : OutB w q len len L) (hl : L.length = len) {i : Nat} (hi : i < len) (x : Bool) : OutB (w.setCell ⟨q, i, none⟩ (.bool x)) q len len (L.set i x) := by
  have inn : (w.setCell ⟨q, i, none⟩ (.bool x)).cell? ⟨q, i, none⟩ = some (.bool x) := World.cell?_setCells_in q [.bool x] i w (fun j hj => by
    simp at hj
    subst hj
    exact h.has i hi) 0 (by simp)
  have out : ∀ c, c ≠ i → (w.setCell ⟨q, i, none⟩ (.bool x)).cell? ⟨q, c, none⟩ = w.cell? ⟨q, c, none⟩ := fun c hc =>
    World.cell?_setCells_out q [.bool x] i w ⟨q, c, none⟩ (fun _ _ => by simp; omega)
  refine ⟨by rw [World.size_setCell]; exact h.lt, fun c hc => ?_, fun c hc => ?_, fun j y hj hy => ?_⟩
  · by_cases hci : c = i
    · subst hci; rw [inn]; rfl
    · rw [out c hci]; exact h.has c hc
  · have := World.frozen?_setCells (w := w) q [.bool x] i ⟨q, c, none⟩
    exact this.trans (h.fr c hc)
  · by_cases hji : j = i
    · subst hji
      rw [List.getElem?_set_self (by omega)] at hy
      obtain rfl : x = y := Option.some.inj hy
      exact inn
    · rw [List.getElem?_set_ne (fun e => hji e.symm)] at hy
      rw [out j hji]; exact h.wd j y hj hy

theorem flatW_get : ∀ {L : List Wd} {j m : Nat} {x : Wd} {u : Value}, L[j]? = some x → x.vs[m]? = some u → (L.flatMap Wd.vs)[j * 6 + m]? = some u
  | [], j, m, x, u, h, _ => by simp at h
  | y :: L, 0, m, x, u, h, hm => by
    simp at h
    subst h
    have h6 : m < y.vs.length := (List.getElem?_eq_some_iff.1 hm).1
    rw [List.flatMap_cons, Nat.zero_mul, Nat.zero_add, List.getElem?_append_left h6]
    exact hm
  | y :: L, j + 1, m, x, u, h, hm => by
    have ih := flatW_get (L := L) (j := j) (by simpa using h) hm
    have hl : y.vs.length = 6 := rfl
    rw [List.flatMap_cons, List.getElem?_append_right (by rw [hl]; omega), hl, show (j + 1) * 6 + m - 6 = j * 6 + m by omega]
    exact ih
theorem flatW_len : ∀ L : List Wd, (L.flatMap Wd.vs).length = L.length * 6
  | [] => rfl
  | y :: L => by
    have hl : y.vs.length = 6 := rfl
    rw [List.flatMap_cons, List.length_append, hl, flatW_len L, List.length_cons]
    omega
theorem flatW_one (L : List Wd) : ∀ u ∈ L.flatMap Wd.vs, u.oneCell' = true := by
  intro u hu
  obtain ⟨x, _, hx⟩ := List.mem_flatMap.1 hu
  simp only [Wd.vs, List.mem_cons, List.not_mem_nil, or_false] at hx
  rcases hx with rfl | rfl | rfl | rfl | rfl | rfl <;> rfl
/-- Bools as values. -/
def bls (G : List Bool) : List Value := G.map .bool
theorem bls_one (G : List Bool) : ∀ u ∈ bls G, u.oneCell' = true := by
  intro u hu
  obtain ⟨x, _, rfl⟩ := List.mem_map.1 hu
  rfl
/-- The cells of a slice of words, one by one. -/
theorem SliceW.flat {B : Nat} {w : World} {k o len : Nat} {L : List Wd} (h : SliceW B w (some ⟨k, o, none⟩) len L) : ∀ j u, (L.flatMap Wd.vs)[j]? = some u → w.cell? ((⟨k, o, none⟩ : Addr).add j) = some u := by
  intro j u hj
  rw [Go.WideShapes.add_plain]
  have hlen := (List.getElem?_eq_some_iff.1 hj).1
  rw [flatW_len, h.2.1] at hlen
  obtain ⟨k', o', x, ha, _, hx, hat⟩ := h.at (j := j / 6) (by omega)
  simp only [Option.some.injEq, Addr.mk.injEq, and_true] at ha
  obtain ⟨rfl, rfl⟩ := ha
  have hm : ∃ u', x.vs[j % 6]? = some u' := ⟨x.vs[j % 6]'(by show j % 6 < 6; omega), List.getElem?_eq_getElem _⟩
  obtain ⟨u', hu'⟩ := hm
  have h1 := flatW_get hx hu'
  rw [show j / 6 * 6 + j % 6 = j by omega, hj] at h1
  obtain rfl := Option.some.inj h1
  have := hat.vs (j % 6) u hu'
  rwa [show o + j / 6 * 6 + j % 6 = o + j by omega] at this
theorem SliceB.flat {B : Nat} {w : World} {k o len : Nat} {L : List Bool} (h : SliceB B w (some ⟨k, o, none⟩) len L) : ∀ j u, (bls L)[j]? = some u → w.cell? ((⟨k, o, none⟩ : Addr).add j) = some u := by
  intro j u hj
  rw [Go.WideShapes.add_plain]
  simp only [bls, List.getElem?_map, Option.map_eq_some_iff] at hj
  obtain ⟨x, hx, rfl⟩ := hj
  have hlt := (List.getElem?_eq_some_iff.1 hx).1
  rw [h.2.1] at hlt
  obtain ⟨k', o', y, ha, _, hy, hc⟩ := h.at hlt
  simp only [Option.some.injEq, Addr.mk.injEq, and_true] at ha
  obtain ⟨rfl, rfl⟩ := ha
  rw [hx] at hy
  obtain rfl := Option.some.inj hy
  exact hc
/-- A row of words that is owned may be written. -/
theorem own_outW {w : World} {base : Nat} {v : Value} {L : List Wd} (h : w.ownsRow base 38 6 v L.length (L.flatMap Wd.vs)) (h0 : 0 < L.length) :
    ∃ g cap, v = .slice (some ⟨g, 0, none⟩) L.length cap ∧ base ≤ g ∧ L.length ≤ cap ∧ OutW w g L.length L.length L := by
  rcases h.2 with ⟨_, hz⟩ | ⟨g, cap, cur, hv, hb, hg, hn, hm, hs, ht⟩
  · omega
  · have hc : ∀ j u, (L.flatMap Wd.vs)[j]? = some u → w.cell? ⟨g, j, none⟩ = some u := fun j u hj => by
      have := h.cells (g := g) (by rw [hv]; rfl) j u hj
      rwa [Go.WideShapes.add_plain, Nat.zero_add] at this
    refine ⟨g, cap, hv, hb, hn, (Array.getElem?_eq_some_iff.1 hg).1, fun i hi => ?_, fun i _ => by simp [World.frozen?, hg], fun j x _ hx => WordAt.of_vs fun m u hm => hc _ _ (flatW_get hx hm)⟩
    have hl : i < (L.flatMap Wd.vs).length := by rw [flatW_len]; exact hi
    rw [hc i _ (List.getElem?_eq_getElem hl)]
    rfl
theorem own_outB {w : World} {base : Nat} {v : Value} {L : List Bool} (h : w.ownsRow base 4 1 v L.length (bls L)) (h0 : 0 < L.length) :
    ∃ g cap, v = .slice (some ⟨g, 0, none⟩) L.length cap ∧ base ≤ g ∧ L.length ≤ cap ∧ OutB w g L.length L.length L := by
  rcases h.2 with ⟨_, hz⟩ | ⟨g, cap, cur, hv, hb, hg, hn, hm, hs, ht⟩
  · omega
  · have hc : ∀ j x, L[j]? = some x → w.cell? ⟨g, j, none⟩ = some (.bool x) := fun j x hj => by
      have := h.cells (g := g) (by rw [hv]; rfl) j (.bool x) (by simp [bls, hj])
      rwa [Go.WideShapes.add_plain, Nat.zero_add] at this
    refine ⟨g, cap, hv, hb, hn, (Array.getElem?_eq_some_iff.1 hg).1, fun i hi => ?_, fun i _ => by simp [World.frozen?, hg], fun j x _ hx => hc j x hx⟩
    rw [hc i _ (List.getElem?_eq_getElem hi)]
    rfl
end Go.Proofs.YtpkhnajhamnggaaGreatDoor

namespace Go.Proofs.YtpkhnajhamnggaaGreatDoor
open Go.ChangeShapes Go.WideShapes Go.ChangeAt Go.RowKit
set_option maxRecDepth 100000

/-- A row of len bools in block q from cell o on, which may be written; the first k are those of L. -/
structure RowB (w : World) (q o len k : Nat) (L : List Bool) : Prop where
  lt : q < w.heap.size
  has : ∀ i, i < len → (w.cell? ⟨q, o + i, none⟩).isSome = true
  fr : ∀ i, i < len → w.frozen? ⟨q, o + i, none⟩ = false
  wd : ∀ j x, j < k → L[j]? = some x → w.cell? ⟨q, o + j, none⟩ = some (.bool x)
theorem OutB.row {w : World} {q len k : Nat} {L : List Bool} (h : OutB w q len k L) : RowB w q 0 len k L :=
  ⟨h.lt, fun i hi => by rw [Nat.zero_add]; exact h.has i hi, fun i hi => by rw [Nat.zero_add]; exact h.fr i hi, fun j x hj hx => by rw [Nat.zero_add]; exact h.wd j x hj hx⟩
theorem RowB.keepB {w w' : World} {q o len k b : Nat} {L : List Bool} (h : RowB w q o len k L) (g : KeepBut b w w') (hb : q ≠ b) : RowB w' q o len k L :=
  ⟨Nat.lt_of_lt_of_le h.lt g.size, fun i hi => by rw [g.cell (p := ⟨q, o + i, none⟩) h.lt hb]; exact h.has i hi, fun i hi => by rw [g.frozen (p := ⟨q, o + i, none⟩) h.lt hb]; exact h.fr i hi, fun j x hj hx => (g.cell (p := ⟨q, o + j, none⟩) h.lt hb).trans (h.wd j x hj hx)⟩
theorem RowB.below {w w' : World} {q o len k : Nat} {L : List Bool} (h : RowB w q o len k L) (hb : Below w.heap.size w w') : RowB w' q o len k L :=
  h.keepB (b := w.heap.size) (KeepBut.ofBelow hb) (Nat.ne_of_lt h.lt)
theorem RowB.first {w : World} {q o len k : Nat} {L : List Bool} (h : RowB w q o len k L) (M : List Bool) : RowB w q o len 0 M := ⟨h.lt, h.has, h.fr, fun _ _ hj => absurd hj (Nat.not_lt_zero _)⟩
theorem RowB.slice {w : World} {q o len : Nat} {L : List Bool} (h : RowB w q o len len L) (hl : L.length = len) (hm : len ≤ maxLen) : SliceB w.heap.size w (some ⟨q, o, none⟩) len L :=
  ⟨hm, hl, .inr ⟨q, o, rfl, h.lt, fun j x hj => h.wd j x (by have := (List.getElem?_eq_some_iff.1 hj).1; omega) hj⟩⟩
theorem RowB.set {w : World} {q o len k : Nat} {L : List Bool} {x : Bool} (h : RowB w q o len k L) (hk : k < len) (hx : L[k]? = some x) : RowB (w.setCell ⟨q, o + k, none⟩ (.bool x)) q o len (k + 1) L := by
  have inn : (w.setCell ⟨q, o + k, none⟩ (.bool x)).cell? ⟨q, o + k, none⟩ = some (.bool x) := World.cell?_setCells_in q [.bool x] (o + k) w (fun j hj => by
    simp at hj
    subst hj
    exact h.has k hk) 0 (by simp)
  have out : ∀ i, i ≠ k → (w.setCell ⟨q, o + k, none⟩ (.bool x)).cell? ⟨q, o + i, none⟩ = w.cell? ⟨q, o + i, none⟩ := fun i hi =>
    World.cell?_setCells_out q [.bool x] (o + k) w ⟨q, o + i, none⟩ (fun _ _ => by simp; omega)
  refine ⟨by rw [World.size_setCell]; exact h.lt, fun i hi => ?_, fun i hi => ?_, fun j y hj hy => ?_⟩
  · by_cases hik : i = k
    · subst hik; rw [inn]; rfl
    · rw [out i hik]; exact h.has i hi
  · have := World.frozen?_setCells (w := w) q [.bool x] (o + k) ⟨q, o + i, none⟩
    exact this.trans (h.fr i hi)
  · by_cases hjk : j = k
    · subst hjk
      obtain rfl : x = y := by rw [hx] at hy; exact Option.some.inj hy
      exact inn
    · rw [out j hjk]; exact h.wd j y (by omega) hy

/-- The marks of a list of bools. -/
def marksB (k0 : Int) (len : Nat) : List Bool := (List.range len).map fun j : Nat => (k0 + (j : Int)) % 3 == 0
theorem marksB_at {k0 : Int} {len k : Nat} (h : k < len) : (marksB k0 len)[k]? = some ((k0 + (k : Int)) % 3 == 0) := by simp [marksB, h]
theorem marksB_len (k0 : Int) (len : Nat) : (marksB k0 len).length = len := by simp [marksB]

set_option maxHeartbeats 4000000 in
theorem markB_any (q o len cap : Nat) (k0 : Int) (h0 : 1 ≤ k0) (h1 : k0 ≤ 16777216) (w : World) (hl : len ≤ 1048576) (h : RowB w q o len 0 (marksB k0 len)) :
    Calls Tryz.prog 98 #[.slice (some ⟨q, o, none⟩) len cap, .int .i64 k0] w fun e w' => e = .returned (.int .i64 (k0 + (len : Int))) ∧ RowB w' q o len len (marksB k0 len) ∧ KeepBut q w w' := by
  have O0 := hid_mk h
  clear h
  go_enter Tryz.func98, Tryz.ntmps98
  go_wp2
  go_loopw [1, 5] (fun kk c wr => ∃ k : Nat, k ≤ len ∧ kk = .int .i64 (k0 + (k : Int)) ∧ c = .int .i64 (k : Int) ∧ Hid (RowB wr q o len k (marksB k0 len)) ∧ Hid (KeepBut q w wr)) (fun _ c _ => len - (intOf c).toNat)
  case atStart => exact ⟨0, Nat.zero_le _, by simp, rfl, O0.out, KeepBut.refl _ _⟩
  case round =>
    clear O0
    obtain ⟨k, hk, rfl, rfl, O, K⟩ := hrel
    by_cases hlt : k < len
    · obtain ⟨m, hm⟩ : ∃ m : Int, m = k0 + (k : Int) := ⟨_, rfl⟩
      have MX := hid_mk (marksB_at (k0 := k0) hlt)
      rw [← hm] at MX ⊢
      have hm0 : 0 ≤ m := by omega
      have hm1 : m ≤ 33554432 := by omega
      have HM := hid_mk hm
      clear hm
      obtain ⟨v0, e0⟩ := Option.isSome_iff_exists.1 (O.out.has k (by omega))
      have f0 := O.out.fr k (by omega)
      have O2 := hid_mk (O.out.set hlt MX.out)
      have K2 : Hid (KeepBut q w (wr.setCell ⟨q, o + k, none⟩ (.bool (m % 3 == 0)))) := K.out.trans ((KeepBut.refl q wr).setCell (o + k) _)
      go_wp2
      go_roundw
      case rel => exact ⟨k + 1, hlt, by have := HM.out; go_num, by go_num, O2.out, K2.out⟩
      case measure => simp [intOf]; omega
    · obtain rfl : k = len := by omega
      go_wp2
      go_ret
      exact ⟨rfl, O.out, K.out⟩

set_option maxHeartbeats 4000000 in
theorem heldB_any (a : Option Addr) (len cap : Nat) (k0 : Int) (h0 : 1 ≤ k0) (h1 : k0 ≤ 16777216) (w : World) (hl : len ≤ 1048576) (hS : SliceB w.heap.size w a len (marksB k0 len)) :
    Calls Tryz.prog 99 #[.slice a len cap, .int .i64 k0] w fun e w' => e = .returned (.int .i64 (k0 + (len : Int))) ∧ Below w.heap.size w w' := by
  have S := hid_mk hS
  clear hS
  go_enter Tryz.func99, Tryz.ntmps99
  go_wp2
  go_loopw [1, 5] (fun kk c wr => ∃ k : Nat, k ≤ len ∧ kk = .int .i64 (k0 + (k : Int)) ∧ c = .int .i64 (k : Int) ∧ Hid (Below w.heap.size w wr)) (fun _ c _ => len - (intOf c).toNat)
  case atStart => exact ⟨0, Nat.zero_le _, by simp, rfl, Below.refl _ _⟩
  case round =>
    obtain ⟨k, hk, rfl, rfl, B⟩ := hrel
    by_cases hlt : k < len
    · obtain ⟨kb, o, x, rfl, hkb, hx, d0⟩ := (S.out.keep B.out).at hlt
      rw [marksB_at hlt] at hx
      obtain rfl := Option.some.inj hx
      obtain ⟨m, hm⟩ : ∃ m : Int, m = k0 + (k : Int) := ⟨_, rfl⟩
      rw [← hm] at d0 ⊢
      have hm0 : 0 ≤ m := by omega
      have hm1 : m ≤ 33554432 := by omega
      have HM := hid_mk hm
      clear hm hx
      generalize hy : (m % 3 == 0) = y at d0
      go_wp2
      go_roundw
      case rel => exact ⟨k + 1, hlt, by have := HM.out; go_num, by go_num, B.out⟩
      case measure => simp [intOf]; omega
    · obtain rfl : k = len := by omega
      go_wp2
      go_ret
      exact ⟨rfl, B.out⟩
end Go.Proofs.YtpkhnajhamnggaaGreatDoor

namespace Go.Proofs.YtpkhnajhamnggaaGreatDoor
open Go.ChangeShapes Go.WideShapes Go.ChangeAt Go.RowKit

theorem plain_ok (n : Int) : wokB (n % 65536) false 0 0 0 0 = true := by
  have h : 0 ≤ n % 65536 ∧ n % 65536 ≤ 65535 := by omega
  simp [wokB, h]
theorem keyword_ok (b t p s n : Int) : wokB (n % 65536) (kokB b t p s) (bif kokB b t p s then b else 0) (bif kokB b t p s then t else 0) (bif kokB b t p s then p else 0) (bif kokB b t p s then s else 0) = true := by
  have h : 0 ≤ n % 65536 ∧ n % 65536 ≤ 65535 := by omega
  cases hk : kokB b t p s
  · simp [wokB, h]
  · simp [wokB, h, hk]
theorem self_under {n : Int} {i : Bool} {b t p s : Int} (h : wokB n i b t p s = true) : undB i b t p s [⟨n, i, b, t, p, s⟩] = true := by
  cases i
  · rfl
  · simp only [wokB, Bool.and_eq_true, cond_true] at h
    simp [undB, ovB, same_cov h.2]
theorem round_go (n : Int) : wrap64 (n + 65536) % 65536 = n % 65536 := by
  unfold wrap64
  omega

theorem st_word : Tryz.prog.stoodInHeld 38 = false := by kernel_rfl
theorem eg_word : Tryz.prog.eqGuardType Tryz.prog.depth 38 = false := by kernel_rfl
theorem equalIn_key9 (a b c d : Int) (w : World) : (Op.equalIn 9999 36 (.agg #[.int .i64 a, .int .i64 b, .int .i64 c, .int .i64 d]) (.agg #[.int .i64 a, .int .i64 b, .int .i64 c, .int .i64 d])).run Tryz.prog w = .ok true w := by
  rw [run_equalIn_agg w 9998 36 _ _ (by kernel_rfl) st_key]
  simp only [Program.fieldsOf, Tryz.underlying36]
  have e3 : ∀ (x y : Int) (w : World), (Op.equalIn 9998 3 (.int .i64 x) (.int .i64 y)).run Tryz.prog w = .ok (x == y) w := fun x y w => run_equalIn_int w 9997 3 _ _ x y Tryz.underlying3
  simp [Op.eqFields, go_sem, e3]
theorem equalIn_word (n : Int) (i : Bool) (a b c d : Int) (w : World) : (Op.equalIn 10000 38 (.agg #[.int .i64 n, .bool i, .int .i64 a, .int .i64 b, .int .i64 c, .int .i64 d]) (.agg #[.int .i64 n, .bool i, .int .i64 a, .int .i64 b, .int .i64 c, .int .i64 d])).run Tryz.prog w = .ok true w := by
  rw [run_equalIn_agg w 9999 38 _ _ (by kernel_rfl) st_word]
  simp only [Program.fieldsOf, Tryz.underlying38]
  have e3 : ∀ (x y : Int) (w : World), (Op.equalIn 9999 3 (.int .i64 x) (.int .i64 y)).run Tryz.prog w = .ok (x == y) w := fun x y w => run_equalIn_int w 9998 3 _ _ x y Tryz.underlying3
  have e4 : ∀ (x y : Bool) (w : World), (Op.equalIn 9999 4 (.bool x) (.bool y)).run Tryz.prog w = .ok (x == y) w := fun x y w => run_equalIn_bool w 9998 4 x y Tryz.underlying4
  have e5 := equalIn_key9 a b c d
  simp [Op.eqFields, go_sem, e3, e4, e5]
theorem eql_word (n : Int) (i : Bool) (a b c d : Int) (w : World) : (binOp .eql 38 (.agg #[.int .i64 n, .bool i, .int .i64 a, .int .i64 b, .int .i64 c, .int .i64 d]) (.agg #[.int .i64 n, .bool i, .int .i64 a, .int .i64 b, .int .i64 c, .int .i64 d])).run Tryz.prog w = .ok (.bool true) w := by
  rw [run_eql_struct, equalIn_word]; rfl
theorem neq_word (n : Int) (i : Bool) (a b c d : Int) (w : World) : (binOp .neq 38 (.agg #[.int .i64 n, .bool i, .int .i64 a, .int .i64 b, .int .i64 c, .int .i64 d]) (.agg #[.int .i64 n, .bool i, .int .i64 a, .int .i64 b, .int .i64 c, .int .i64 d])).run Tryz.prog w = .ok (.bool false) w := by
  rw [run_neq_struct, equalIn_word]; rfl
end Go.Proofs.YtpkhnajhamnggaaGreatDoor
