/- Weaken, Narrow, Point, SealBy and OpenBy of the specification, at all words: what they answer. No condition. · weakened, narrowed, pointed, sealedBy and openedBy of the program, at all words: what they answer. narrowed: of a word whose number is in 0 .. 65535. · The map of what is made: what makers answers, and what is looked up in it. No condition. · madeOr of the program: what the maker of that name makes, where the word is right and a key and the maker makes something; the first word elsewhere. -/
import Derived.Test.YtpkhnajhamnggaaGreatDoorZE
import Derived.Test.YtpkhnajhamnggaaGreatDoorZC
import Derived.Test.YtpkhnajhamnggaaGreatDoorRows
import Derived.WalkKit
import Derived.ProofKit
import Derived.Maps.Own
namespace Go.Proofs.YtpkhnajhamnggaaGreatDoor
open Go.ChangeShapes Go.WideShapes Go.ChangeAt Go.RowKit

/-- A word that is made where c, and bare elsewhere. -/
abbrev madeV (n : Int) (c : Bool) (b t p s : Int) : Value :=
  .agg #[.int .i64 n, .bool c, .int .i64 (bif c then b else 0), .int .i64 (bif c then t else 0), .int .i64 (bif c then p else 0), .int .i64 (bif c then s else 0)]

theorem rk_of {n : Int} {i : Bool} {b t p s : Int} (h : rkB n i b t p s = true) : i = true ∧ n % 65536 = n ∧ 0 ≤ n ∧ n ≤ 65535 ∧ kokB b t p s = true := by
  unfold rkB wokB at h
  cases i <;> simp at h
  exact ⟨rfl, by omega, by omega, by omega, h.2⟩
theorem open_of {n : Int} {i : Bool} {b t p s : Int} (h : openB n i b t p s = true) : i = true ∧ s = 0 ∧ n % 65536 = n ∧ 0 ≤ n ∧ n ≤ 65535 := by
  unfold openB at h
  simp only [Bool.and_eq_true, beq_iff_eq] at h
  have g := rk_of h.1
  exact ⟨g.1, h.2, g.2.1, g.2.2.1, g.2.2.2.1⟩

/-- Whether Narrow makes a key. -/
def narB (n : Int) (i : Bool) (b t p s m : Int) : Bool :=
  openB n i b t p s && (decide (0 ≤ m ∧ m ≤ 4096) && (bokB n (n + m) && decide (b ≤ (wd n (n + m)).1 ∧ (wd n (n + m)).2 ≤ t)))
/-- Whether OpenBy makes a key. -/
def opnB (n : Int) (i : Bool) (b t p s n' : Int) (i' : Bool) (b' t' p' s' : Int) : Bool :=
  rkB n i b t p s && (mayB n' i' b' t' p' s' && (s == n'))

set_option maxRecDepth 100000 in
set_option maxHeartbeats 2000000 in
theorem specWeaken_any (n : Int) (i : Bool) (b t p s : Int) (m : Int) (w : World) :
    Calls Tryz.prog 123 #[.agg #[.int .i64 n, .bool i, .int .i64 b, .int .i64 t, .int .i64 p, .int .i64 s], .int .i64 m] w fun e w' => e = .returned (madeV (n % 65536) (openB n i b t p s) b t (bits .and .i64 p (m % 64)) s) ∧ Below w.heap.size w w' := by
  have s1 := l4Open_any n i b t p s
  have s2 := specBare_any n i b t p s
  have H : openB n i b t p s = true → _ := open_of (n := n) (i := i) (b := b) (t := t) (p := p) (s := s)
  rw [← i64_and63]
  obtain ⟨k, hk⟩ : ∃ k, Hid (k = n % 65536) := ⟨_, rfl⟩
  rw [← hk.out] at s2 ⊢
  generalize openB n i b t p s = x at s1 H ⊢
  have S1 : Hid _ := s1
  have S2 : Hid _ := s2
  clear s1 s2
  cases x
  · simp only [madeV, cond_false]
    clear H hk
    go_enter Tryz.func123, Tryz.ntmps123
    go_wp2_with fail
    refine (S1.out _).mono ?_
    rintro e w1 ⟨rfl, hb1⟩
    have A1 : Hid _ := ((Six.new w n i b t p s 38).alloc (.cells #[.int .i64 0, .bool false, .int .i64 0, .int .i64 0, .int .i64 0, .int .i64 0] 38)).below hb1
    have Z1 : Hid _ := (Six.second w (.cells #[.int .i64 n, .bool i, .int .i64 b, .int .i64 t, .int .i64 p, .int .i64 s] 38) 0 false 0 0 0 0 38).below hb1
    have K1 : Hid (Below w.heap.size w w1) := (((Below.refl _ w).alloc (Nat.le_refl _) _).alloc (by simp) _).trans (hb1.mono (by simp; omega))
    clear hb1
    obtain ⟨_, c0, c1, c2, c3, c4, c5, _, _, _, _, _, _⟩ := A1.out
    go_wp2_with fail
    refine (S2.out _).mono ?_
    rintro e w9 ⟨rfl, hb9⟩
    have K9 : Hid (Below w.heap.size w w9) := K1.out.trans (hb9.mono K1.out.size)
    obtain ⟨_, y0, y1, y2, y3, y4, y5, g0, g1, g2, g3, g4, g5⟩ := Z1.out.below hb9
    clear hb9 A1 Z1 K1
    clear c0 c1 c2 c3 c4 c5
    go_wp2
    refine bodyPost_ret (v := .agg #[.int .i64 k, .bool false, .int .i64 0, .int .i64 0, .int .i64 0, .int .i64 0]) (by simp [results, Tryz.results123, go_sem, y0, y1, y2, y3, y4, y5]) rfl ⟨rfl, ?_⟩
    repeat' (first | (with_reducible exact K9.out) | (refine Below.setCell ?_ (by show w.heap.size ≤ _; dsimp only; omega) _))
  · obtain ⟨rfl, rfl, hn, _, _⟩ := H rfl
    have hkn : n = k := (hk.out.trans hn).symm
    clear H hn S2 hk
    subst hkn
    simp only [madeV, cond_true]
    go_enter Tryz.func123, Tryz.ntmps123
    go_wp2_with fail
    refine (S1.out _).mono ?_
    rintro e w1 ⟨rfl, hb1⟩
    have A1 : Hid _ := ((Six.new w n true b t p 0 38).alloc (.cells #[.int .i64 0, .bool false, .int .i64 0, .int .i64 0, .int .i64 0, .int .i64 0] 38)).below hb1
    have Z1 : Hid _ := (Six.second w (.cells #[.int .i64 n, .bool true, .int .i64 b, .int .i64 t, .int .i64 p, .int .i64 0] 38) 0 false 0 0 0 0 38).below hb1
    have K1 : Hid (Below w.heap.size w w1) := (((Below.refl _ w).alloc (Nat.le_refl _) _).alloc (by simp) _).trans (hb1.mono (by simp; omega))
    clear hb1
    obtain ⟨_, c0, c1, c2, c3, c4, c5, f0, f1, f2, f3, f4, f5⟩ := A1.out
    obtain ⟨_, y0, y1, y2, y3, y4, y5, g0, g1, g2, g3, g4, g5⟩ := Z1.out
    go_wp2
    refine bodyPost_ret (v := .agg #[.int .i64 n, .bool true, .int .i64 b, .int .i64 t, .int .i64 (bits .and .i64 p (bits .and .i64 m 63)), .int .i64 0]) (by simp [results, Tryz.results123, go_sem, y0, y1, y2, y3, y4, y5]) rfl ⟨rfl, ?_⟩
    repeat' (first | (with_reducible exact K1.out) | (refine Below.setCell ?_ (by show w.heap.size ≤ _; dsimp only; omega) _))

set_option maxRecDepth 100000 in
set_option maxHeartbeats 2000000 in
theorem specPoint_any (n : Int) (i : Bool) (b t p s : Int) (m : Int) (w : World) :
    Calls Tryz.prog 80 #[.agg #[.int .i64 n, .bool i, .int .i64 b, .int .i64 t, .int .i64 p, .int .i64 s], .int .i64 m] w fun e w' => e = .returned (madeV (m % 65536) (openB n i b t p s) b t p s) ∧ Below w.heap.size w w' := by
  have s1 := l4Open_any n i b t p s
  have s2 := specPlain_any m
  have q := i64_and65535 m
  have H : openB n i b t p s = true → _ := open_of (n := n) (i := i) (b := b) (t := t) (p := p) (s := s)
  obtain ⟨k, hk⟩ : ∃ k, Hid (k = m % 65536) := ⟨_, rfl⟩
  rw [← hk.out] at s2 q ⊢
  generalize openB n i b t p s = x at s1 H ⊢
  have S1 : Hid _ := s1
  have S2 : Hid _ := s2
  clear s1 s2 hk
  cases x
  · simp only [madeV, cond_false]
    clear H q
    go_enter Tryz.func80, Tryz.ntmps80
    go_wp2_with fail
    refine (S1.out _).mono ?_
    rintro e w1 ⟨rfl, hb1⟩
    have A1 : Hid _ := ((Six.new w n i b t p s 38).alloc (.cells #[.int .i64 0, .bool false, .int .i64 0, .int .i64 0, .int .i64 0, .int .i64 0] 38)).below hb1
    have Z1 : Hid _ := (Six.second w (.cells #[.int .i64 n, .bool i, .int .i64 b, .int .i64 t, .int .i64 p, .int .i64 s] 38) 0 false 0 0 0 0 38).below hb1
    have K1 : Hid (Below w.heap.size w w1) := (((Below.refl _ w).alloc (Nat.le_refl _) _).alloc (by simp) _).trans (hb1.mono (by simp; omega))
    clear hb1
    obtain ⟨_, c0, c1, c2, c3, c4, c5, _, _, _, _, _, _⟩ := A1.out
    go_wp2_with fail
    refine (S2.out _).mono ?_
    rintro e w9 ⟨rfl, hb9⟩
    have K9 : Hid (Below w.heap.size w w9) := K1.out.trans (hb9.mono K1.out.size)
    obtain ⟨_, y0, y1, y2, y3, y4, y5, g0, g1, g2, g3, g4, g5⟩ := Z1.out.below hb9
    clear hb9 A1 Z1 K1
    clear c0 c1 c2 c3 c4 c5
    go_wp2
    refine bodyPost_ret (v := .agg #[.int .i64 k, .bool false, .int .i64 0, .int .i64 0, .int .i64 0, .int .i64 0]) (by simp [results, Tryz.results80, go_sem, y0, y1, y2, y3, y4, y5]) rfl ⟨rfl, ?_⟩
    repeat' (first | (with_reducible exact K9.out) | (refine Below.setCell ?_ (by show w.heap.size ≤ _; dsimp only; omega) _))
  · obtain ⟨rfl, rfl, hn, _, _⟩ := H rfl
    clear H hn S2
    simp only [madeV, cond_true]
    go_enter Tryz.func80, Tryz.ntmps80
    go_wp2_with fail
    refine (S1.out _).mono ?_
    rintro e w1 ⟨rfl, hb1⟩
    have A1 : Hid _ := ((Six.new w n true b t p 0 38).alloc (.cells #[.int .i64 0, .bool false, .int .i64 0, .int .i64 0, .int .i64 0, .int .i64 0] 38)).below hb1
    have Z1 : Hid _ := (Six.second w (.cells #[.int .i64 n, .bool true, .int .i64 b, .int .i64 t, .int .i64 p, .int .i64 0] 38) 0 false 0 0 0 0 38).below hb1
    have K1 : Hid (Below w.heap.size w w1) := (((Below.refl _ w).alloc (Nat.le_refl _) _).alloc (by simp) _).trans (hb1.mono (by simp; omega))
    clear hb1
    obtain ⟨_, c0, c1, c2, c3, c4, c5, f0, f1, f2, f3, f4, f5⟩ := A1.out
    obtain ⟨_, y0, y1, y2, y3, y4, y5, g0, g1, g2, g3, g4, g5⟩ := Z1.out
    go_wp2
    refine bodyPost_ret (v := .agg #[.int .i64 k, .bool true, .int .i64 b, .int .i64 t, .int .i64 p, .int .i64 0]) (by simp [results, Tryz.results80, go_sem, y0, y1, y2, y3, y4, y5]) rfl ⟨rfl, ?_⟩
    repeat' (first | (with_reducible exact K1.out) | (refine Below.setCell ?_ (by show w.heap.size ≤ _; dsimp only; omega) _))

set_option maxRecDepth 100000 in
set_option maxHeartbeats 2000000 in
theorem specNarrow_any (n : Int) (i : Bool) (b t p s : Int) (m : Int) (w : World) :
    Calls Tryz.prog 124 #[.agg #[.int .i64 n, .bool i, .int .i64 b, .int .i64 t, .int .i64 p, .int .i64 s], .int .i64 m] w fun e w' => e = .returned (madeV (n % 65536) (narB n i b t p s m) (wd n (n + m)).1 (wd n (n + m)).2 p s) ∧ Below w.heap.size w w' := by
  have s1 := l4Open_any n i b t p s
  have s2 := specBare_any n i b t p s
  have s3 := in_any m 0 4096
  have s4 := specBounds_any n (n + m)
  have s5 := specWide_any n (n + m)
  have H : openB n i b t p s = true → _ := open_of (n := n) (i := i) (b := b) (t := t) (p := p) (s := s)
  obtain ⟨k, hk⟩ : ∃ k, Hid (k = n % 65536) := ⟨_, rfl⟩
  rw [← hk.out] at s2 ⊢
  unfold narB
  obtain ⟨lo, hi, hwd⟩ : ∃ lo hi, wd n (n + m) = (lo, hi) := ⟨_, _, rfl⟩
  rw [hwd] at s5 ⊢
  simp only at s5 ⊢
  clear hwd
  generalize bokB n (n + m) = z at s4 ⊢
  generalize openB n i b t p s = x at s1 H ⊢
  obtain ⟨y, hy⟩ : ∃ y, Hid (y = decide (0 ≤ m ∧ m ≤ 4096)) := ⟨_, rfl⟩
  rw [← hy.out] at s3 ⊢
  have S1 : Hid _ := s1
  have S2 : Hid _ := s2
  have S3 : Hid _ := s3
  have S4 : Hid _ := s4
  have S5 : Hid _ := s5
  clear s1 s2 s3 s4 s5
  cases x
  · simp only [madeV, Bool.false_and, cond_false]
    clear H hk hy
    go_enter Tryz.func124, Tryz.ntmps124
    go_wp2_with fail
    refine (S1.out _).mono ?_
    rintro e w1 ⟨rfl, hb1⟩
    have A1 : Hid _ := ((Six.new w n i b t p s 38).alloc (.cells #[.int .i64 0, .bool false, .int .i64 0, .int .i64 0, .int .i64 0, .int .i64 0] 38)).below hb1
    have Z1 : Hid _ := (Six.second w (.cells #[.int .i64 n, .bool i, .int .i64 b, .int .i64 t, .int .i64 p, .int .i64 s] 38) 0 false 0 0 0 0 38).below hb1
    have K1 : Hid (Below w.heap.size w w1) := (((Below.refl _ w).alloc (Nat.le_refl _) _).alloc (by simp) _).trans (hb1.mono (by simp; omega))
    clear hb1
    obtain ⟨_, c0, c1, c2, c3, c4, c5, _, _, _, _, _, _⟩ := A1.out
    go_wp2_with fail
    refine (S2.out _).mono ?_
    rintro e w9 ⟨rfl, hb9⟩
    have K9 : Hid (Below w.heap.size w w9) := K1.out.trans (hb9.mono K1.out.size)
    obtain ⟨_, y0, y1, y2, y3, y4, y5, g0, g1, g2, g3, g4, g5⟩ := Z1.out.below hb9
    clear hb9 A1 Z1 K1
    clear c0 c1 c2 c3 c4 c5
    go_wp2
    refine bodyPost_ret (v := .agg #[.int .i64 k, .bool false, .int .i64 0, .int .i64 0, .int .i64 0, .int .i64 0]) (by simp [results, Tryz.results124, go_sem, y0, y1, y2, y3, y4, y5]) rfl ⟨rfl, ?_⟩
    repeat' (first | (with_reducible exact K9.out) | (refine Below.setCell ?_ (by show w.heap.size ≤ _; dsimp only; omega) _))
  obtain ⟨rfl, rfl, hn, n0, n1⟩ := H rfl
  have hkn : n = k := (hk.out.trans hn).symm
  clear H hn hk
  subst hkn
  simp only [Bool.true_and]
  cases y
  · simp only [madeV, Bool.false_and, cond_false]
    clear hy
    go_enter Tryz.func124, Tryz.ntmps124
    go_wp2_with fail
    refine (S1.out _).mono ?_
    rintro e w1 ⟨rfl, hb1⟩
    have A1 : Hid _ := ((Six.new w n true b t p 0 38).alloc (.cells #[.int .i64 0, .bool false, .int .i64 0, .int .i64 0, .int .i64 0, .int .i64 0] 38)).below hb1
    have Z1 : Hid _ := (Six.second w (.cells #[.int .i64 n, .bool true, .int .i64 b, .int .i64 t, .int .i64 p, .int .i64 0] 38) 0 false 0 0 0 0 38).below hb1
    have K1 : Hid (Below w.heap.size w w1) := (((Below.refl _ w).alloc (Nat.le_refl _) _).alloc (by simp) _).trans (hb1.mono (by simp; omega))
    clear hb1
    obtain ⟨_, c0, c1, c2, c3, c4, c5, _, _, _, _, _, _⟩ := A1.out
    go_wp2_with fail
    refine (S3.out _).mono ?_
    rintro e w8 ⟨rfl, rfl⟩
    go_wp2_with fail
    refine (S2.out _).mono ?_
    rintro e w9 ⟨rfl, hb9⟩
    have K9 : Hid (Below w.heap.size w w9) := K1.out.trans (hb9.mono K1.out.size)
    obtain ⟨_, y0, y1, y2, y3, y4, y5, g0, g1, g2, g3, g4, g5⟩ := Z1.out.below hb9
    clear hb9 A1 Z1 K1
    go_wp2
    refine bodyPost_ret (v := .agg #[.int .i64 n, .bool false, .int .i64 0, .int .i64 0, .int .i64 0, .int .i64 0]) (by simp [results, Tryz.results124, go_sem, y0, y1, y2, y3, y4, y5]) rfl ⟨rfl, ?_⟩
    repeat' (first | (with_reducible exact K9.out) | (refine Below.setCell ?_ (by show w.heap.size ≤ _; dsimp only; omega) _))
  have hy' : (0 ≤ m ∧ m ≤ 4096) := by have := hy.out; simpa using this.symm
  have hadd : wrap64 (n + m) = n + m := by unfold wrap64; omega
  clear hy hy' n0 n1
  simp only [Bool.true_and]
  cases z
  · simp only [madeV, Bool.false_and, cond_false]
    go_enter Tryz.func124, Tryz.ntmps124
    go_wp2_with fail
    refine (S1.out _).mono ?_
    rintro e w1 ⟨rfl, hb1⟩
    have A1 : Hid _ := ((Six.new w n true b t p 0 38).alloc (.cells #[.int .i64 0, .bool false, .int .i64 0, .int .i64 0, .int .i64 0, .int .i64 0] 38)).below hb1
    have Z1 : Hid _ := (Six.second w (.cells #[.int .i64 n, .bool true, .int .i64 b, .int .i64 t, .int .i64 p, .int .i64 0] 38) 0 false 0 0 0 0 38).below hb1
    have K1 : Hid (Below w.heap.size w w1) := (((Below.refl _ w).alloc (Nat.le_refl _) _).alloc (by simp) _).trans (hb1.mono (by simp; omega))
    clear hb1
    obtain ⟨_, c0, c1, c2, c3, c4, c5, _, _, _, _, _, _⟩ := A1.out
    go_wp2_with fail
    refine (S3.out _).mono ?_
    rintro e w8 ⟨rfl, rfl⟩
    go_wp2_with fail
    refine (S4.out _).mono ?_
    rintro e w8 ⟨rfl, rfl⟩
    go_wp2_with fail
    refine (S2.out _).mono ?_
    rintro e w9 ⟨rfl, hb9⟩
    have K9 : Hid (Below w.heap.size w w9) := K1.out.trans (hb9.mono K1.out.size)
    obtain ⟨_, y0, y1, y2, y3, y4, y5, g0, g1, g2, g3, g4, g5⟩ := Z1.out.below hb9
    clear hb9 A1 Z1 K1
    go_wp2
    refine bodyPost_ret (v := .agg #[.int .i64 n, .bool false, .int .i64 0, .int .i64 0, .int .i64 0, .int .i64 0]) (by simp [results, Tryz.results124, go_sem, y0, y1, y2, y3, y4, y5]) rfl ⟨rfl, ?_⟩
    repeat' (first | (with_reducible exact K9.out) | (refine Below.setCell ?_ (by show w.heap.size ≤ _; dsimp only; omega) _))
  simp only [Bool.true_and]
  have hdd : decide (b ≤ lo ∧ hi ≤ t) = (!decide (lo < b) && !decide (t < hi)) := by
    by_cases e1 : lo < b <;> by_cases e2 : t < hi <;> simp [e1, e2] <;> omega
  rw [hdd]
  clear hdd
  go_enter Tryz.func124, Tryz.ntmps124
  go_wp2_with fail
  refine (S1.out _).mono ?_
  rintro e w1 ⟨rfl, hb1⟩
  have A1 : Hid _ := ((Six.new w n true b t p 0 38).alloc (.cells #[.int .i64 0, .bool false, .int .i64 0, .int .i64 0, .int .i64 0, .int .i64 0] 38)).below hb1
  have Z1 : Hid _ := (Six.second w (.cells #[.int .i64 n, .bool true, .int .i64 b, .int .i64 t, .int .i64 p, .int .i64 0] 38) 0 false 0 0 0 0 38).below hb1
  have K1 : Hid (Below w.heap.size w w1) := (((Below.refl _ w).alloc (Nat.le_refl _) _).alloc (by simp) _).trans (hb1.mono (by simp; omega))
  clear hb1
  obtain ⟨_, c0, c1, c2, c3, c4, c5, _, _, _, _, _, _⟩ := A1.out
  go_wp2_with fail
  refine (S3.out _).mono ?_
  rintro e w8 ⟨rfl, rfl⟩
  go_wp2_with fail
  refine (S4.out _).mono ?_
  rintro e w8 ⟨rfl, rfl⟩
  go_wp2_with fail
  refine (S5.out _).mono ?_
  rintro e w2 ⟨rfl, hb2⟩
  have A2 : Hid _ := A1.out.below hb2
  have Z2 : Hid _ := Z1.out.below hb2
  have K2 : Hid (Below w.heap.size w w2) := K1.out.trans (hb2.mono K1.out.size)
  clear hb2 A1 Z1 K1
  clear S1 S3 S4 S5 c0 c1 c2 c3 c4 c5
  obtain ⟨_, c0, c1, c2, c3, c4, c5, f0, f1, f2, f3, f4, f5⟩ := A2.out
  cases d0 : decide (lo < b)
  case false =>
    cases d1 : decide (t < hi)
    case false =>
      obtain ⟨_, y0, y1, y2, y3, y4, y5, g0, g1, g2, g3, g4, g5⟩ := Z2.out
      go_wp2
      refine bodyPost_ret (v := .agg #[.int .i64 n, .bool true, .int .i64 lo, .int .i64 hi, .int .i64 p, .int .i64 0]) (by simp [results, Tryz.results124, go_sem, y0, y1, y2, y3, y4, y5]) rfl ⟨(by rw [d0, d1]; rfl), ?_⟩
      repeat' (first | (with_reducible exact K2.out) | (refine Below.setCell ?_ (by show w.heap.size ≤ _; dsimp only; omega) _))
    case true =>
      go_wp2_with fail
      refine (S2.out _).mono ?_
      rintro e w9 ⟨rfl, hb9⟩
      have K9 : Hid (Below w.heap.size w w9) := K2.out.trans (hb9.mono K2.out.size)
      obtain ⟨_, y0, y1, y2, y3, y4, y5, g0, g1, g2, g3, g4, g5⟩ := Z2.out.below hb9
      clear hb9 A2 Z2 K2
      go_wp2
      refine bodyPost_ret (v := .agg #[.int .i64 n, .bool false, .int .i64 0, .int .i64 0, .int .i64 0, .int .i64 0]) (by simp [results, Tryz.results124, go_sem, y0, y1, y2, y3, y4, y5]) rfl ⟨(by rw [d0, d1]; rfl), ?_⟩
      repeat' (first | (with_reducible exact K9.out) | (refine Below.setCell ?_ (by show w.heap.size ≤ _; dsimp only; omega) _))
  case true =>
    go_wp2_with fail
    refine (S2.out _).mono ?_
    rintro e w9 ⟨rfl, hb9⟩
    have K9 : Hid (Below w.heap.size w w9) := K2.out.trans (hb9.mono K2.out.size)
    obtain ⟨_, y0, y1, y2, y3, y4, y5, g0, g1, g2, g3, g4, g5⟩ := Z2.out.below hb9
    clear hb9 A2 Z2 K2
    go_wp2
    refine bodyPost_ret (v := .agg #[.int .i64 n, .bool false, .int .i64 0, .int .i64 0, .int .i64 0, .int .i64 0]) (by simp [results, Tryz.results124, go_sem, y0, y1, y2, y3, y4, y5]) rfl ⟨(by rw [d0]; rfl), ?_⟩
    repeat' (first | (with_reducible exact K9.out) | (refine Below.setCell ?_ (by show w.heap.size ≤ _; dsimp only; omega) _))

set_option maxRecDepth 100000 in
set_option maxHeartbeats 2000000 in
theorem specSealBy_any (n : Int) (i : Bool) (b t p s : Int) (n' : Int) (i' : Bool) (b' t' p' s' : Int) (w : World) :
    Calls Tryz.prog 125 #[.agg #[.int .i64 n, .bool i, .int .i64 b, .int .i64 t, .int .i64 p, .int .i64 s], .agg #[.int .i64 n', .bool i', .int .i64 b', .int .i64 t', .int .i64 p', .int .i64 s']] w fun e w' => e = .returned (madeV (n % 65536) (openB n i b t p s && mayB n' i' b' t' p' s') b t p n') ∧ Below w.heap.size w w' := by
  have s1 := l4Open_any n i b t p s
  have s2 := specBare_any n i b t p s
  have s3 := l4Sealer_any n' i' b' t' p' s'
  have H : openB n i b t p s = true → _ := open_of (n := n) (i := i) (b := b) (t := t) (p := p) (s := s)
  obtain ⟨k, hk⟩ : ∃ k, Hid (k = n % 65536) := ⟨_, rfl⟩
  rw [← hk.out] at s2 ⊢
  generalize openB n i b t p s = x at s1 H ⊢
  generalize mayB n' i' b' t' p' s' = y at s3 ⊢
  have S1 : Hid _ := s1
  have S2 : Hid _ := s2
  have S3 : Hid _ := s3
  clear s1 s2 s3
  cases x
  · simp only [madeV, Bool.false_and, cond_false]
    clear H hk
    go_enter Tryz.func125, Tryz.ntmps125
    go_wp2_with fail
    refine (S1.out _).mono ?_
    rintro e w1 ⟨rfl, hb1⟩
    have A1 : Hid _ := (((Six.new w n i b t p s 38).alloc (.cells #[.int .i64 n', .bool i', .int .i64 b', .int .i64 t', .int .i64 p', .int .i64 s'] 38)).alloc (.cells #[.int .i64 0, .bool false, .int .i64 0, .int .i64 0, .int .i64 0, .int .i64 0] 38)).below hb1
    have B1 : Hid _ := ((Six.second w (.cells #[.int .i64 n, .bool i, .int .i64 b, .int .i64 t, .int .i64 p, .int .i64 s] 38) n' i' b' t' p' s' 38).alloc (.cells #[.int .i64 0, .bool false, .int .i64 0, .int .i64 0, .int .i64 0, .int .i64 0] 38)).below hb1
    have Z1 : Hid _ := (Six.third w (.cells #[.int .i64 n, .bool i, .int .i64 b, .int .i64 t, .int .i64 p, .int .i64 s] 38) (.cells #[.int .i64 n', .bool i', .int .i64 b', .int .i64 t', .int .i64 p', .int .i64 s'] 38) 0 false 0 0 0 0 38).below hb1
    have K1 : Hid (Below w.heap.size w w1) := ((((Below.refl _ w).alloc (Nat.le_refl _) _).alloc (by simp) _).alloc (by simp; omega) _).trans (hb1.mono (by simp; omega))
    clear hb1
    obtain ⟨_, c0, c1, c2, c3, c4, c5, _, _, _, _, _, _⟩ := A1.out
    go_wp2_with fail
    refine (S2.out _).mono ?_
    rintro e w9 ⟨rfl, hb9⟩
    have K9 : Hid (Below w.heap.size w w9) := K1.out.trans (hb9.mono K1.out.size)
    obtain ⟨_, y0, y1, y2, y3, y4, y5, g0, g1, g2, g3, g4, g5⟩ := Z1.out.below hb9
    clear hb9 A1 Z1 K1
    clear c0 c1 c2 c3 c4 c5
    go_wp2
    refine bodyPost_ret (v := .agg #[.int .i64 k, .bool false, .int .i64 0, .int .i64 0, .int .i64 0, .int .i64 0]) (by simp [results, Tryz.results125, go_sem, y0, y1, y2, y3, y4, y5]) rfl ⟨rfl, ?_⟩
    repeat' (first | (with_reducible exact K9.out) | (refine Below.setCell ?_ (by show w.heap.size ≤ _; dsimp only; omega) _))
  obtain ⟨rfl, rfl, hn, _, _⟩ := H rfl
  have hkn : n = k := (hk.out.trans hn).symm
  clear H hn hk
  subst hkn
  simp only [Bool.true_and]
  go_enter Tryz.func125, Tryz.ntmps125
  go_wp2_with fail
  refine (S1.out _).mono ?_
  rintro e w1 ⟨rfl, hb1⟩
  have A1 : Hid _ := (((Six.new w n true b t p 0 38).alloc (.cells #[.int .i64 n', .bool i', .int .i64 b', .int .i64 t', .int .i64 p', .int .i64 s'] 38)).alloc (.cells #[.int .i64 0, .bool false, .int .i64 0, .int .i64 0, .int .i64 0, .int .i64 0] 38)).below hb1
  have B1 : Hid _ := ((Six.second w (.cells #[.int .i64 n, .bool true, .int .i64 b, .int .i64 t, .int .i64 p, .int .i64 0] 38) n' i' b' t' p' s' 38).alloc (.cells #[.int .i64 0, .bool false, .int .i64 0, .int .i64 0, .int .i64 0, .int .i64 0] 38)).below hb1
  have Z1 : Hid _ := (Six.third w (.cells #[.int .i64 n, .bool true, .int .i64 b, .int .i64 t, .int .i64 p, .int .i64 0] 38) (.cells #[.int .i64 n', .bool i', .int .i64 b', .int .i64 t', .int .i64 p', .int .i64 s'] 38) 0 false 0 0 0 0 38).below hb1
  have K1 : Hid (Below w.heap.size w w1) := ((((Below.refl _ w).alloc (Nat.le_refl _) _).alloc (by simp) _).alloc (by simp; omega) _).trans (hb1.mono (by simp; omega))
  clear hb1
  obtain ⟨_, e0, e1, e2, e3, e4, e5, _, _, _, _, _, _⟩ := B1.out
  go_wp2_with fail
  refine (S3.out _).mono ?_
  rintro e w2 ⟨rfl, hb2⟩
  have A2 : Hid _ := A1.out.below hb2
  have B2 : Hid _ := B1.out.below hb2
  have Z2 : Hid _ := Z1.out.below hb2
  have K2 : Hid (Below w.heap.size w w2) := K1.out.trans (hb2.mono K1.out.size)
  clear hb2 A1 Z1 K1 B1
  clear S1 S3 e0 e1 e2 e3 e4 e5
  cases y
  case false =>
    obtain ⟨_, c0, c1, c2, c3, c4, c5, _, _, _, _, _, _⟩ := A2.out
    go_wp2_with fail
    refine (S2.out _).mono ?_
    rintro e w9 ⟨rfl, hb9⟩
    have K9 : Hid (Below w.heap.size w w9) := K2.out.trans (hb9.mono K2.out.size)
    obtain ⟨_, y0, y1, y2, y3, y4, y5, g0, g1, g2, g3, g4, g5⟩ := Z2.out.below hb9
    clear hb9 A2 Z2 K2
    clear c0 c1 c2 c3 c4 c5
    go_wp2
    refine bodyPost_ret (v := .agg #[.int .i64 n, .bool false, .int .i64 0, .int .i64 0, .int .i64 0, .int .i64 0]) (by simp [results, Tryz.results125, go_sem, y0, y1, y2, y3, y4, y5]) rfl ⟨rfl, ?_⟩
    repeat' (first | (with_reducible exact K9.out) | (refine Below.setCell ?_ (by show w.heap.size ≤ _; dsimp only; omega) _))
  case true =>
    obtain ⟨_, e0, e1, e2, e3, e4, e5, _, _, _, _, _, _⟩ := B2.out
    obtain ⟨_, c0, c1, c2, c3, c4, c5, f0, f1, f2, f3, f4, f5⟩ := A2.out
    obtain ⟨_, y0, y1, y2, y3, y4, y5, g0, g1, g2, g3, g4, g5⟩ := Z2.out
    go_wp2
    refine bodyPost_ret (v := .agg #[.int .i64 n, .bool true, .int .i64 b, .int .i64 t, .int .i64 p, .int .i64 n']) (by simp [results, Tryz.results125, go_sem, y0, y1, y2, y3, y4, y5]) rfl ⟨rfl, ?_⟩
    repeat' (first | (with_reducible exact K2.out) | (refine Below.setCell ?_ (by show w.heap.size ≤ _; dsimp only; omega) _))

set_option maxRecDepth 100000 in
set_option maxHeartbeats 2000000 in
theorem specOpenBy_any (n : Int) (i : Bool) (b t p s : Int) (n' : Int) (i' : Bool) (b' t' p' s' : Int) (w : World) :
    Calls Tryz.prog 126 #[.agg #[.int .i64 n, .bool i, .int .i64 b, .int .i64 t, .int .i64 p, .int .i64 s], .agg #[.int .i64 n', .bool i', .int .i64 b', .int .i64 t', .int .i64 p', .int .i64 s']] w fun e w' => e = .returned (madeV (n % 65536) (opnB n i b t p s n' i' b' t' p' s') b t p 0) ∧ Below w.heap.size w w' := by
  have s1 := specWordOk_any n i b t p s
  have s2 := specBare_any n i b t p s
  have s3 := l4Sealer_any n' i' b' t' p' s'
  have H : rkB n i b t p s = true → _ := rk_of (n := n) (i := i) (b := b) (t := t) (p := p) (s := s)
  obtain ⟨k, hk⟩ : ∃ k, Hid (k = n % 65536) := ⟨_, rfl⟩
  rw [← hk.out] at s2 ⊢
  unfold opnB
  unfold rkB at H ⊢
  generalize wokB n i b t p s = x at s1 H ⊢
  generalize mayB n' i' b' t' p' s' = y at s3 ⊢
  have S1 : Hid _ := s1
  have S2 : Hid _ := s2
  have S3 : Hid _ := s3
  clear s1 s2 s3
  cases x
  · simp only [madeV, Bool.false_and, cond_false]
    clear H hk
    go_enter Tryz.func126, Tryz.ntmps126
    go_wp2_with fail
    refine (S1.out _).mono ?_
    rintro e w1 ⟨rfl, hb1⟩
    have A1 : Hid _ := (((Six.new w n i b t p s 38).alloc (.cells #[.int .i64 n', .bool i', .int .i64 b', .int .i64 t', .int .i64 p', .int .i64 s'] 38)).alloc (.cells #[.int .i64 0, .bool false, .int .i64 0, .int .i64 0, .int .i64 0, .int .i64 0] 38)).below hb1
    have B1 : Hid _ := ((Six.second w (.cells #[.int .i64 n, .bool i, .int .i64 b, .int .i64 t, .int .i64 p, .int .i64 s] 38) n' i' b' t' p' s' 38).alloc (.cells #[.int .i64 0, .bool false, .int .i64 0, .int .i64 0, .int .i64 0, .int .i64 0] 38)).below hb1
    have Z1 : Hid _ := (Six.third w (.cells #[.int .i64 n, .bool i, .int .i64 b, .int .i64 t, .int .i64 p, .int .i64 s] 38) (.cells #[.int .i64 n', .bool i', .int .i64 b', .int .i64 t', .int .i64 p', .int .i64 s'] 38) 0 false 0 0 0 0 38).below hb1
    have K1 : Hid (Below w.heap.size w w1) := ((((Below.refl _ w).alloc (Nat.le_refl _) _).alloc (by simp) _).alloc (by simp; omega) _).trans (hb1.mono (by simp; omega))
    clear hb1
    obtain ⟨_, c0, c1, c2, c3, c4, c5, _, _, _, _, _, _⟩ := A1.out
    go_wp2_with fail
    refine (S2.out _).mono ?_
    rintro e w9 ⟨rfl, hb9⟩
    have K9 : Hid (Below w.heap.size w w9) := K1.out.trans (hb9.mono K1.out.size)
    obtain ⟨_, y0, y1, y2, y3, y4, y5, g0, g1, g2, g3, g4, g5⟩ := Z1.out.below hb9
    clear hb9 A1 Z1 K1
    clear c0 c1 c2 c3 c4 c5
    go_wp2
    refine bodyPost_ret (v := .agg #[.int .i64 k, .bool false, .int .i64 0, .int .i64 0, .int .i64 0, .int .i64 0]) (by simp [results, Tryz.results126, go_sem, y0, y1, y2, y3, y4, y5]) rfl ⟨rfl, ?_⟩
    repeat' (first | (with_reducible exact K9.out) | (refine Below.setCell ?_ (by show w.heap.size ≤ _; dsimp only; omega) _))
  cases i
  · simp only [madeV, Bool.true_and, Bool.false_and, cond_false]
    clear H hk
    go_enter Tryz.func126, Tryz.ntmps126
    go_wp2_with fail
    refine (S1.out _).mono ?_
    rintro e w1 ⟨rfl, hb1⟩
    have A1 : Hid _ := (((Six.new w n false b t p s 38).alloc (.cells #[.int .i64 n', .bool i', .int .i64 b', .int .i64 t', .int .i64 p', .int .i64 s'] 38)).alloc (.cells #[.int .i64 0, .bool false, .int .i64 0, .int .i64 0, .int .i64 0, .int .i64 0] 38)).below hb1
    have B1 : Hid _ := ((Six.second w (.cells #[.int .i64 n, .bool false, .int .i64 b, .int .i64 t, .int .i64 p, .int .i64 s] 38) n' i' b' t' p' s' 38).alloc (.cells #[.int .i64 0, .bool false, .int .i64 0, .int .i64 0, .int .i64 0, .int .i64 0] 38)).below hb1
    have Z1 : Hid _ := (Six.third w (.cells #[.int .i64 n, .bool false, .int .i64 b, .int .i64 t, .int .i64 p, .int .i64 s] 38) (.cells #[.int .i64 n', .bool i', .int .i64 b', .int .i64 t', .int .i64 p', .int .i64 s'] 38) 0 false 0 0 0 0 38).below hb1
    have K1 : Hid (Below w.heap.size w w1) := ((((Below.refl _ w).alloc (Nat.le_refl _) _).alloc (by simp) _).alloc (by simp; omega) _).trans (hb1.mono (by simp; omega))
    clear hb1
    obtain ⟨_, c0, c1, c2, c3, c4, c5, _, _, _, _, _, _⟩ := A1.out
    go_wp2_with fail
    refine (S2.out _).mono ?_
    rintro e w9 ⟨rfl, hb9⟩
    have K9 : Hid (Below w.heap.size w w9) := K1.out.trans (hb9.mono K1.out.size)
    obtain ⟨_, y0, y1, y2, y3, y4, y5, g0, g1, g2, g3, g4, g5⟩ := Z1.out.below hb9
    clear hb9 A1 Z1 K1
    clear c0 c1 c2 c3 c4 c5
    go_wp2
    refine bodyPost_ret (v := .agg #[.int .i64 k, .bool false, .int .i64 0, .int .i64 0, .int .i64 0, .int .i64 0]) (by simp [results, Tryz.results126, go_sem, y0, y1, y2, y3, y4, y5]) rfl ⟨rfl, ?_⟩
    repeat' (first | (with_reducible exact K9.out) | (refine Below.setCell ?_ (by show w.heap.size ≤ _; dsimp only; omega) _))
  obtain ⟨_, hn, _, _⟩ := H rfl
  have hkn : n = k := (hk.out.trans hn).symm
  clear H hn hk
  subst hkn
  simp only [Bool.true_and]
  go_enter Tryz.func126, Tryz.ntmps126
  go_wp2_with fail
  refine (S1.out _).mono ?_
  rintro e w1 ⟨rfl, hb1⟩
  have A1 : Hid _ := (((Six.new w n true b t p s 38).alloc (.cells #[.int .i64 n', .bool i', .int .i64 b', .int .i64 t', .int .i64 p', .int .i64 s'] 38)).alloc (.cells #[.int .i64 0, .bool false, .int .i64 0, .int .i64 0, .int .i64 0, .int .i64 0] 38)).below hb1
  have B1 : Hid _ := ((Six.second w (.cells #[.int .i64 n, .bool true, .int .i64 b, .int .i64 t, .int .i64 p, .int .i64 s] 38) n' i' b' t' p' s' 38).alloc (.cells #[.int .i64 0, .bool false, .int .i64 0, .int .i64 0, .int .i64 0, .int .i64 0] 38)).below hb1
  have Z1 : Hid _ := (Six.third w (.cells #[.int .i64 n, .bool true, .int .i64 b, .int .i64 t, .int .i64 p, .int .i64 s] 38) (.cells #[.int .i64 n', .bool i', .int .i64 b', .int .i64 t', .int .i64 p', .int .i64 s'] 38) 0 false 0 0 0 0 38).below hb1
  have K1 : Hid (Below w.heap.size w w1) := ((((Below.refl _ w).alloc (Nat.le_refl _) _).alloc (by simp) _).alloc (by simp; omega) _).trans (hb1.mono (by simp; omega))
  clear hb1
  obtain ⟨_, e0, e1, e2, e3, e4, e5, _, _, _, _, _, _⟩ := B1.out
  obtain ⟨_, c0, c1, c2, c3, c4, c5, _, _, _, _, _, _⟩ := A1.out
  go_wp2_with fail
  refine (S3.out _).mono ?_
  rintro e w2 ⟨rfl, hb2⟩
  have A2 : Hid _ := A1.out.below hb2
  have B2 : Hid _ := B1.out.below hb2
  have Z2 : Hid _ := Z1.out.below hb2
  have K2 : Hid (Below w.heap.size w w2) := K1.out.trans (hb2.mono K1.out.size)
  clear hb2 A1 Z1 K1 B1
  clear S1 S3 e0 e1 e2 e3 e4 e5 c0 c1 c2 c3 c4 c5
  cases y
  case false =>
    obtain ⟨_, c0, c1, c2, c3, c4, c5, _, _, _, _, _, _⟩ := A2.out
    go_wp2_with fail
    refine (S2.out _).mono ?_
    rintro e w9 ⟨rfl, hb9⟩
    have K9 : Hid (Below w.heap.size w w9) := K2.out.trans (hb9.mono K2.out.size)
    obtain ⟨_, y0, y1, y2, y3, y4, y5, g0, g1, g2, g3, g4, g5⟩ := Z2.out.below hb9
    clear hb9 A2 Z2 K2
    clear c0 c1 c2 c3 c4 c5
    go_wp2
    refine bodyPost_ret (v := .agg #[.int .i64 n, .bool false, .int .i64 0, .int .i64 0, .int .i64 0, .int .i64 0]) (by simp [results, Tryz.results126, go_sem, y0, y1, y2, y3, y4, y5]) rfl ⟨rfl, ?_⟩
    repeat' (first | (with_reducible exact K9.out) | (refine Below.setCell ?_ (by show w.heap.size ≤ _; dsimp only; omega) _))
  obtain ⟨_, e0, e1, e2, e3, e4, e5, _, _, _, _, _, _⟩ := B2.out
  have hss : (s == n') = !(s != n') := by cases h : s == n' <;> simp [bne, h]
  have HS := hid_mk hss
  clear hss
  cases d0 : (s != n')
  case false =>
    obtain ⟨_, c0, c1, c2, c3, c4, c5, f0, f1, f2, f3, f4, f5⟩ := A2.out
    obtain ⟨_, y0, y1, y2, y3, y4, y5, g0, g1, g2, g3, g4, g5⟩ := Z2.out
    go_wp2
    refine bodyPost_ret (v := .agg #[.int .i64 n, .bool true, .int .i64 b, .int .i64 t, .int .i64 p, .int .i64 0]) (by simp [results, Tryz.results126, go_sem, y0, y1, y2, y3, y4, y5]) rfl ⟨(by rw [HS.out, d0]; rfl), ?_⟩
    repeat' (first | (with_reducible exact K2.out) | (refine Below.setCell ?_ (by show w.heap.size ≤ _; dsimp only; omega) _))
  case true =>
    obtain ⟨_, c0, c1, c2, c3, c4, c5, _, _, _, _, _, _⟩ := A2.out
    go_wp2_with fail
    refine (S2.out _).mono ?_
    rintro e w9 ⟨rfl, hb9⟩
    have K9 : Hid (Below w.heap.size w w9) := K2.out.trans (hb9.mono K2.out.size)
    obtain ⟨_, y0, y1, y2, y3, y4, y5, g0, g1, g2, g3, g4, g5⟩ := Z2.out.below hb9
    clear hb9 A2 Z2 K2
    clear c0 c1 c2 c3 c4 c5
    go_wp2
    refine bodyPost_ret (v := .agg #[.int .i64 n, .bool false, .int .i64 0, .int .i64 0, .int .i64 0, .int .i64 0]) (by simp [results, Tryz.results126, go_sem, y0, y1, y2, y3, y4, y5]) rfl ⟨(by rw [HS.out, d0]; rfl), ?_⟩
    repeat' (first | (with_reducible exact K9.out) | (refine Below.setCell ?_ (by show w.heap.size ≤ _; dsimp only; omega) _))
end Go.Proofs.YtpkhnajhamnggaaGreatDoor

namespace Go.Proofs.YtpkhnajhamnggaaGreatDoor
open Go.ChangeShapes Go.WideShapes Go.ChangeAt Go.RowKit

theorem left64_math (n : Int) : (wrap64 (n.tmod 64 + 64)).tmod 64 = n % 64 := by
  have h1 : n.tmod 64 = if 0 ≤ n then n % 64 else -((-n) % 64) := by
    split
    · exact Int.tmod_eq_emod_of_nonneg (by omega)
    · have := Int.neg_tmod (a := -n) (b := 64)
      rw [Int.neg_neg] at this
      rw [this, Int.tmod_eq_emod_of_nonneg (by omega)]
  have h2 : wrap64 (n.tmod 64 + 64) = n.tmod 64 + 64 := by
    unfold wrap64
    split at h1 <;> omega
  rw [h2, Int.tmod_eq_emod_of_nonneg (by split at h1 <;> omega)]
  split at h1 <;> omega

set_option maxHeartbeats 400000 in
theorem leftBy64_any (n : Int) (w : World) :
    Calls Tryz.prog 175 #[.int .i64 n, .int .i64 64] w fun e w' => e = .returned (.int .i64 (n % 64)) ∧ w' = w := by
  go_enter Tryz.func175, Tryz.ntmps175
  go_wp2
  go_ret
  exact ⟨by show Ending.returned (Value.int IntKind.i64 ((wrap64 (n.tmod 64 + 64)).tmod 64)) = _; rw [left64_math], rfl⟩

/-- What a maker is given beside the word, in a block. -/
structure Seven (w : World) (r : Nat) (m n : Int) (i : Bool) (b t p s : Int) : Prop where
  lt : r < w.heap.size
  c0 : w.cell? ⟨r, 0, none⟩ = some (.int .i64 m)
  c1 : w.cell? ⟨r, 1, none⟩ = some (.int .i64 n)
  c2 : w.cell? ⟨r, 2, none⟩ = some (.bool i)
  c3 : w.cell? ⟨r, 3, none⟩ = some (.int .i64 b)
  c4 : w.cell? ⟨r, 4, none⟩ = some (.int .i64 t)
  c5 : w.cell? ⟨r, 5, none⟩ = some (.int .i64 p)
  c6 : w.cell? ⟨r, 6, none⟩ = some (.int .i64 s)
section
variable {w w' : World} {r q : Nat} {m n : Int} {i : Bool} {b t p s : Int}
theorem Seven.keep (h : Seven w r m n i b t p s) (k : KeepBut q w w') (hq : r ≠ q) : Seven w' r m n i b t p s :=
  ⟨Nat.lt_of_lt_of_le h.lt k.size, (k.cell (p := ⟨r, 0, none⟩) h.lt hq).trans h.c0, (k.cell (p := ⟨r, 1, none⟩) h.lt hq).trans h.c1, (k.cell (p := ⟨r, 2, none⟩) h.lt hq).trans h.c2, (k.cell (p := ⟨r, 3, none⟩) h.lt hq).trans h.c3, (k.cell (p := ⟨r, 4, none⟩) h.lt hq).trans h.c4, (k.cell (p := ⟨r, 5, none⟩) h.lt hq).trans h.c5, (k.cell (p := ⟨r, 6, none⟩) h.lt hq).trans h.c6⟩
theorem Seven.below (h : Seven w r m n i b t p s) (k : Below w.heap.size w w') : Seven w' r m n i b t p s := h.keep (q := w.heap.size) (KeepBut.ofBelow k) (Nat.ne_of_lt h.lt)
theorem Seven.alloc (h : Seven w r m n i b t p s) (o : Obj) : Seven (w.alloc o) r m n i b t p s := h.keep (q := w.heap.size) ((KeepBut.refl _ _).alloc o) (Nat.ne_of_lt h.lt)
theorem Seven.drew (h : Seven w r m n i b t p s) : Seven w.drew r m n i b t p s := h.below ((Below.refl _ _).drew)
theorem Seven.other (h : Seven w r m n i b t p s) {r' : Nat} (hr : r ≠ r') (o : Nat) (u : Value) : Seven (w.setCell ⟨r', o, none⟩ u) r m n i b t p s := h.keep (q := r') ((KeepBut.refl _ _).setCell o u) hr
end
theorem Seven.second (w : World) (o : Obj) (m n : Int) (i : Bool) (b t p s : Int) (T : TypeId) : Seven ((w.alloc o).alloc (.cells #[.int .i64 m, .int .i64 n, .bool i, .int .i64 b, .int .i64 t, .int .i64 p, .int .i64 s] T)) (w.heap.size + 1) m n i b t p s :=
  ⟨by simp, by simp, by simp, by simp, by simp, by simp, by simp, by simp⟩

/-- The blocks of a maker: the word, what is given beside it, the answer's; and that nothing that was there has turned. -/
structure Mkr (w0 : World) (n : Int) (i : Bool) (b t p s m n' : Int) (i' : Bool) (b' t' p' s' : Int) (w : World) : Prop where
  a : Six w w0.heap.size n i b t p s
  g : Seven w (w0.heap.size + 1) m n' i' b' t' p' s'
  z : Six w (w0.heap.size + 1 + 1) 0 false 0 0 0 0
  k : Below w0.heap.size w0 w
section
variable {w0 w w' : World} {n : Int} {i : Bool} {b t p s m n' : Int} {i' : Bool} {b' t' p' s' : Int}
theorem Mkr.next (h : Mkr w0 n i b t p s m n' i' b' t' p' s' w) (hb : Below w.heap.size w w') : Mkr w0 n i b t p s m n' i' b' t' p' s' w' :=
  ⟨h.a.below hb, h.g.below hb, h.z.below hb, h.k.trans (hb.mono h.k.size)⟩
theorem Mkr.drew (h : Mkr w0 n i b t p s m n' i' b' t' p' s' w) : Mkr w0 n i b t p s m n' i' b' t' p' s' w.drew := h.next (Below.refl _ _).drew
theorem Mkr.set0 (h : Mkr w0 n i b t p s m n' i' b' t' p' s' w) (x : Int) : Mkr w0 x i b t p s m n' i' b' t' p' s' (w.setCell ⟨w0.heap.size, 0, none⟩ (.int .i64 x)) :=
  ⟨h.a.set0 x, h.g.other (by omega) _ _, h.z.other (by omega) _ _, h.k.setCell (Nat.le_refl _) _⟩
theorem Mkr.set2 (h : Mkr w0 n i b t p s m n' i' b' t' p' s' w) (x : Int) : Mkr w0 n i x t p s m n' i' b' t' p' s' (w.setCell ⟨w0.heap.size, 2, none⟩ (.int .i64 x)) :=
  ⟨h.a.set2 x, h.g.other (by omega) _ _, h.z.other (by omega) _ _, h.k.setCell (Nat.le_refl _) _⟩
theorem Mkr.set3 (h : Mkr w0 n i b t p s m n' i' b' t' p' s' w) (x : Int) : Mkr w0 n i b x p s m n' i' b' t' p' s' (w.setCell ⟨w0.heap.size, 3, none⟩ (.int .i64 x)) :=
  ⟨h.a.set3 x, h.g.other (by omega) _ _, h.z.other (by omega) _ _, h.k.setCell (Nat.le_refl _) _⟩
theorem Mkr.set4 (h : Mkr w0 n i b t p s m n' i' b' t' p' s' w) (x : Int) : Mkr w0 n i b t x s m n' i' b' t' p' s' (w.setCell ⟨w0.heap.size, 4, none⟩ (.int .i64 x)) :=
  ⟨h.a.set4 x, h.g.other (by omega) _ _, h.z.other (by omega) _ _, h.k.setCell (Nat.le_refl _) _⟩
theorem Mkr.set5 (h : Mkr w0 n i b t p s m n' i' b' t' p' s' w) (x : Int) : Mkr w0 n i b t p x m n' i' b' t' p' s' (w.setCell ⟨w0.heap.size, 5, none⟩ (.int .i64 x)) :=
  ⟨h.a.set5 x, h.g.other (by omega) _ _, h.z.other (by omega) _ _, h.k.setCell (Nat.le_refl _) _⟩
end
theorem Mkr.new (w : World) (n : Int) (i : Bool) (b t p s m n' : Int) (i' : Bool) (b' t' p' s' : Int) : Mkr w n i b t p s m n' i' b' t' p' s' (((w.alloc (.cells #[.int .i64 n, .bool i, .int .i64 b, .int .i64 t, .int .i64 p, .int .i64 s] 38)).alloc (.cells #[.int .i64 m, .int .i64 n', .bool i', .int .i64 b', .int .i64 t', .int .i64 p', .int .i64 s'] 174)).alloc (.cells #[.int .i64 0, .bool false, .int .i64 0, .int .i64 0, .int .i64 0, .int .i64 0] 38)) :=
  ⟨((Six.new w n i b t p s _).alloc _).alloc _, (Seven.second w _ m n' i' b' t' p' s' _).alloc _, Six.third w _ _ 0 false 0 0 0 0 _,
    (((Below.refl _ w).alloc (Nat.le_refl _) _).alloc (by simp) _).alloc (by simp; omega) _⟩

/-- A word where c, and the zero word elsewhere. -/
abbrev orZ (c : Bool) (n : Int) (i : Bool) (b t p s : Int) : Value :=
  .agg #[.int .i64 (bif c then n else 0), .bool (bif c then i else false), .int .i64 (bif c then b else 0), .int .i64 (bif c then t else 0), .int .i64 (bif c then p else 0), .int .i64 (bif c then s else 0)]

set_option maxRecDepth 100000 in
set_option maxHeartbeats 4000000 in
theorem weakened_any (n : Int) (i : Bool) (b t p s m n' : Int) (i' : Bool) (b' t' p' s' : Int) (w : World) :
    Calls Tryz.prog 188 #[.agg #[.int .i64 n, .bool i, .int .i64 b, .int .i64 t, .int .i64 p, .int .i64 s], .agg #[.int .i64 m, .int .i64 n', .bool i', .int .i64 b', .int .i64 t', .int .i64 p', .int .i64 s']] w fun e w' => e = .returned (.tuple #[.agg #[.int .i64 n, .bool i, .int .i64 b, .int .i64 t, .int .i64 (bits .and .i64 p (m % 64)), .int .i64 s], .bool (!(s != 0))]) ∧ Below w.heap.size w w' := by
  obtain ⟨k, hk⟩ : ∃ k, Hid (k = m % 64) := ⟨_, rfl⟩
  have s1 := leftBy64_any m
  rw [← hk.out] at s1 ⊢
  obtain ⟨y, hy⟩ : ∃ y, Hid (y = (s != 0)) := ⟨_, rfl⟩
  have s2 := fun pp => sealed_any b t pp s
  rw [← hy.out] at s2 ⊢
  clear hk hy
  have S1 : Hid _ := s1
  have S2 : Hid _ := s2
  clear s1 s2
  go_enter Tryz.func188, Tryz.ntmps188
  go_upto_region 1 with fail
  have M0 : Hid _ := Mkr.new w n i b t p s m n' i' b' t' p' s'
  generalize ((w.alloc (.cells #[.int .i64 n, .bool i, .int .i64 b, .int .i64 t, .int .i64 p, .int .i64 s] 38)).alloc (.cells #[.int .i64 m, .int .i64 n', .bool i', .int .i64 b', .int .i64 t', .int .i64 p', .int .i64 s'] 174)).alloc (.cells #[.int .i64 0, .bool false, .int .i64 0, .int .i64 0, .int .i64 0, .int .i64 0] 38) = W0 at M0 ⊢
  obtain ⟨_, c0, c1, c2, c3, c4, c5, f0, f1, f2, f3, f4, f5⟩ := M0.out.a
  obtain ⟨_, d0, d1, d2, d3, d4, d5, d6⟩ := M0.out.g
  have M1 : Hid _ := M0.out.drew.set4 (bits .and .i64 p k)
  go_cut [] (fun wx => Hid (Mkr w n i b t (bits .and .i64 p k) s m n' i' b' t' p' s' wx))
  case first =>
    go_region_with (first | (go_at_call 175; refine (S1.out _).mono ?_; rintro e w2 ⟨rfl, rfl⟩))
    all_goals
      go_wp2_with fail
      go_meet
      case rel => exact M1.out
  case rest =>
    clear c0 c1 c2 c3 c4 c5 f0 f1 f2 f3 f4 f5 d0 d1 d2 d3 d4 d5 d6 M0 M1 S1
    have M2 : Hid _ := hcut.out
    clear hcut
    have M3 : Hid _ := M2.out.drew
    go_upto_region 2 with fail
    obtain ⟨_, c0, c1, c2, c3, c4, c5, _, _, _, _, _, _⟩ := M2.out.a
    obtain ⟨_, y0, y1, y2, y3, y4, y5, g0, g1, g2, g3, g4, g5⟩ := M2.out.z
    go_region_with (first | (go_at_call 171; refine (S2.out _ _).mono ?_; rintro e w4 ⟨rfl, hb4⟩; have M4 : Hid _ := M3.out.next hb4; clear hb4 c0 c1 c2 c3 c4 c5 y0 y1 y2 y3 y4 y5 g0 g1 g2 g3 g4 g5; obtain ⟨_, c0, c1, c2, c3, c4, c5, _, _, _, _, _, _⟩ := M4.out.a; obtain ⟨_, y0, y1, y2, y3, y4, y5, g0, g1, g2, g3, g4, g5⟩ := M4.out.z))
    all_goals
      go_wp2
      refine bodyPost_ret (v := .tuple #[.agg #[.int .i64 n, .bool i, .int .i64 b, .int .i64 t, .int .i64 (bits .and .i64 p k), .int .i64 s], .bool (!y)]) (by simp [results, Tryz.results188, go_sem, y0, y1, y2, y3, y4, y5]) rfl ⟨rfl, ?_⟩
      repeat' (first | (with_reducible exact M4.out.k) | (with_reducible apply Below.drew) | (with_reducible apply below_drewN) | (refine Below.setCell ?_ (by show w.heap.size ≤ _; dsimp only; omega) _))

set_option maxRecDepth 100000 in
set_option maxHeartbeats 4000000 in
theorem pointed_any (n : Int) (i : Bool) (b t p s m n' : Int) (i' : Bool) (b' t' p' s' : Int) (w : World) :
    Calls Tryz.prog 190 #[.agg #[.int .i64 n, .bool i, .int .i64 b, .int .i64 t, .int .i64 p, .int .i64 s], .agg #[.int .i64 m, .int .i64 n', .bool i', .int .i64 b', .int .i64 t', .int .i64 p', .int .i64 s']] w fun e w' => e = .returned (.tuple #[.agg #[.int .i64 (m % 65536), .bool i, .int .i64 b, .int .i64 t, .int .i64 p, .int .i64 s], .bool (!(s != 0))]) ∧ Below w.heap.size w w' := by
  obtain ⟨k, hk⟩ : ∃ k, Hid (k = m % 65536) := ⟨_, rfl⟩
  have s1 := leftBy_any m
  rw [← hk.out] at s1 ⊢
  obtain ⟨y, hy⟩ : ∃ y, Hid (y = (s != 0)) := ⟨_, rfl⟩
  have s2 := sealed_any b t p s
  rw [← hy.out] at s2 ⊢
  clear hk hy
  have S1 : Hid _ := s1
  have S2 : Hid _ := s2
  clear s1 s2
  go_enter Tryz.func190, Tryz.ntmps190
  go_upto_region 1 with fail
  have M0 : Hid _ := Mkr.new w n i b t p s m n' i' b' t' p' s'
  generalize ((w.alloc (.cells #[.int .i64 n, .bool i, .int .i64 b, .int .i64 t, .int .i64 p, .int .i64 s] 38)).alloc (.cells #[.int .i64 m, .int .i64 n', .bool i', .int .i64 b', .int .i64 t', .int .i64 p', .int .i64 s'] 174)).alloc (.cells #[.int .i64 0, .bool false, .int .i64 0, .int .i64 0, .int .i64 0, .int .i64 0] 38) = W0 at M0 ⊢
  obtain ⟨_, c0, c1, c2, c3, c4, c5, f0, f1, f2, f3, f4, f5⟩ := M0.out.a
  obtain ⟨_, d0, d1, d2, d3, d4, d5, d6⟩ := M0.out.g
  have M1 : Hid _ := M0.out.set0 k
  go_wp2_with fail
  refine (S1.out _).mono ?_
  rintro e w2 ⟨rfl, rfl⟩
  go_upto_region 2 with fail
  clear c0 c1 c2 c3 c4 c5 f0 f1 f2 f3 f4 f5 d0 d1 d2 d3 d4 d5 d6 M0 S1
  generalize w2.setCell ⟨w.heap.size, 0, none⟩ (.int .i64 k) = W1 at M1 ⊢
  have M2 : Hid _ := M1.out.drew
  obtain ⟨_, c0, c1, c2, c3, c4, c5, _, _, _, _, _, _⟩ := M1.out.a
  obtain ⟨_, y0, y1, y2, y3, y4, y5, g0, g1, g2, g3, g4, g5⟩ := M1.out.z
  go_region_with (first | (go_at_call 171; refine (S2.out _).mono ?_; rintro e w4 ⟨rfl, hb4⟩; have M4 : Hid _ := M2.out.next hb4; clear hb4 c0 c1 c2 c3 c4 c5 y0 y1 y2 y3 y4 y5 g0 g1 g2 g3 g4 g5; obtain ⟨_, c0, c1, c2, c3, c4, c5, _, _, _, _, _, _⟩ := M4.out.a; obtain ⟨_, y0, y1, y2, y3, y4, y5, g0, g1, g2, g3, g4, g5⟩ := M4.out.z))
  all_goals
    go_wp2
    refine bodyPost_ret (v := .tuple #[.agg #[.int .i64 k, .bool i, .int .i64 b, .int .i64 t, .int .i64 p, .int .i64 s], .bool (!y)]) (by simp [results, Tryz.results190, go_sem, y0, y1, y2, y3, y4, y5]) rfl ⟨rfl, ?_⟩
    repeat' (first | (with_reducible exact M4.out.k) | (with_reducible apply Below.drew) | (with_reducible apply below_drewN) | (refine Below.setCell ?_ (by show w.heap.size ≤ _; dsimp only; omega) _))

set_option maxRecDepth 100000 in
set_option maxHeartbeats 4000000 in
theorem sealedBy_any (n : Int) (i : Bool) (b t p s m n' : Int) (i' : Bool) (b' t' p' s' : Int) (w : World) :
    Calls Tryz.prog 191 #[.agg #[.int .i64 n, .bool i, .int .i64 b, .int .i64 t, .int .i64 p, .int .i64 s], .agg #[.int .i64 m, .int .i64 n', .bool i', .int .i64 b', .int .i64 t', .int .i64 p', .int .i64 s']] w fun e w' => e = .returned (.tuple #[orZ (!(s != 0) && mayB n' i' b' t' p' s') n i b t p n', .bool (!(s != 0) && mayB n' i' b' t' p' s')]) ∧ Below w.heap.size w w' := by
  have s1 := sealed_any b t p s
  have s2 := maySeal_any n' i' b' t' p' s'
  generalize mayB n' i' b' t' p' s' = x at s2 ⊢
  obtain ⟨y, hy⟩ : ∃ y, Hid (y = (s != 0)) := ⟨_, rfl⟩
  rw [← hy.out] at s1 ⊢
  clear hy
  have S1 : Hid _ := s1
  have S2 : Hid _ := s2
  clear s1 s2
  go_enter Tryz.func191, Tryz.ntmps191
  go_upto_region 1 with fail
  have M0 : Hid _ := Mkr.new w n i b t p s m n' i' b' t' p' s'
  generalize ((w.alloc (.cells #[.int .i64 n, .bool i, .int .i64 b, .int .i64 t, .int .i64 p, .int .i64 s] 38)).alloc (.cells #[.int .i64 m, .int .i64 n', .bool i', .int .i64 b', .int .i64 t', .int .i64 p', .int .i64 s'] 174)).alloc (.cells #[.int .i64 0, .bool false, .int .i64 0, .int .i64 0, .int .i64 0, .int .i64 0] 38) = W0 at M0 ⊢
  obtain ⟨_, c0, c1, c2, c3, c4, c5, _, _, _, _, _, _⟩ := M0.out.a
  go_wp2_with fail
  refine (S1.out _).mono ?_
  rintro e w1 ⟨rfl, hb1⟩
  have M1 : Hid _ := M0.out.next hb1
  clear hb1 M0 S1 c0 c1 c2 c3 c4 c5
  cases y
  case true =>
    obtain ⟨_, y0, y1, y2, y3, y4, y5, g0, g1, g2, g3, g4, g5⟩ := M1.out.z
    go_wp2
    refine bodyPost_ret (v := .tuple #[.agg #[.int .i64 0, .bool false, .int .i64 0, .int .i64 0, .int .i64 0, .int .i64 0], .bool false]) (by simp [results, Tryz.results191, go_sem, y0, y1, y2, y3, y4, y5]) rfl ⟨rfl, ?_⟩
    repeat' (first | (with_reducible exact M1.out.k) | (with_reducible apply Below.drew) | (with_reducible apply below_drewN) | (refine Below.setCell ?_ (by show w.heap.size ≤ _; dsimp only; omega) _))
  obtain ⟨_, d0, d1, d2, d3, d4, d5, d6⟩ := M1.out.g
  go_wp2_with fail
  refine (S2.out _).mono ?_
  rintro e w2 ⟨rfl, hb2⟩
  have M2 : Hid _ := M1.out.next hb2
  clear hb2 M1 S2 d0 d1 d2 d3 d4 d5 d6
  cases x
  case false =>
    obtain ⟨_, y0, y1, y2, y3, y4, y5, g0, g1, g2, g3, g4, g5⟩ := M2.out.z
    go_wp2
    refine bodyPost_ret (v := .tuple #[.agg #[.int .i64 0, .bool false, .int .i64 0, .int .i64 0, .int .i64 0, .int .i64 0], .bool false]) (by simp [results, Tryz.results191, go_sem, y0, y1, y2, y3, y4, y5]) rfl ⟨rfl, ?_⟩
    repeat' (first | (with_reducible exact M2.out.k) | (with_reducible apply Below.drew) | (with_reducible apply below_drewN) | (refine Below.setCell ?_ (by show w.heap.size ≤ _; dsimp only; omega) _))
  obtain ⟨_, c0, c1, c2, c3, c4, c5, f0, f1, f2, f3, f4, f5⟩ := M2.out.a
  obtain ⟨_, d0, d1, d2, d3, d4, d5, d6⟩ := M2.out.g
  obtain ⟨_, y0, y1, y2, y3, y4, y5, g0, g1, g2, g3, g4, g5⟩ := M2.out.z
  go_wp2
  refine bodyPost_ret (v := .tuple #[.agg #[.int .i64 n, .bool i, .int .i64 b, .int .i64 t, .int .i64 p, .int .i64 n'], .bool true]) (by simp [results, Tryz.results191, go_sem, y0, y1, y2, y3, y4, y5]) rfl ⟨rfl, ?_⟩
  repeat' (first | (with_reducible exact M2.out.k) | (with_reducible apply Below.drew) | (with_reducible apply below_drewN) | (refine Below.setCell ?_ (by show w.heap.size ≤ _; dsimp only; omega) _))

set_option maxRecDepth 100000 in
set_option maxHeartbeats 4000000 in
theorem openedBy_any (n : Int) (i : Bool) (b t p s m n' : Int) (i' : Bool) (b' t' p' s' : Int) (w : World) :
    Calls Tryz.prog 192 #[.agg #[.int .i64 n, .bool i, .int .i64 b, .int .i64 t, .int .i64 p, .int .i64 s], .agg #[.int .i64 m, .int .i64 n', .bool i', .int .i64 b', .int .i64 t', .int .i64 p', .int .i64 s']] w fun e w' => e = .returned (.tuple #[orZ (mayB n' i' b' t' p' s' && (s == n')) n i b t p 0, .bool (mayB n' i' b' t' p' s' && (s == n'))]) ∧ Below w.heap.size w w' := by
  have s2 := maySeal_any n' i' b' t' p' s'
  have hss : (s == n') = !(s != n') := by cases h : s == n' <;> simp [bne, h]
  rw [hss]
  clear hss
  generalize mayB n' i' b' t' p' s' = x at s2 ⊢
  have S2 : Hid _ := s2
  clear s2
  go_enter Tryz.func192, Tryz.ntmps192
  go_upto_region 1 with fail
  have M0 : Hid _ := Mkr.new w n i b t p s m n' i' b' t' p' s'
  generalize ((w.alloc (.cells #[.int .i64 n, .bool i, .int .i64 b, .int .i64 t, .int .i64 p, .int .i64 s] 38)).alloc (.cells #[.int .i64 m, .int .i64 n', .bool i', .int .i64 b', .int .i64 t', .int .i64 p', .int .i64 s'] 174)).alloc (.cells #[.int .i64 0, .bool false, .int .i64 0, .int .i64 0, .int .i64 0, .int .i64 0] 38) = W0 at M0 ⊢
  obtain ⟨_, d0, d1, d2, d3, d4, d5, d6⟩ := M0.out.g
  go_wp2_with fail
  refine (S2.out _).mono ?_
  rintro e w2 ⟨rfl, hb2⟩
  have M2 : Hid _ := M0.out.next hb2
  clear hb2 M0 S2 d0 d1 d2 d3 d4 d5 d6
  cases x
  case false =>
    obtain ⟨_, y0, y1, y2, y3, y4, y5, g0, g1, g2, g3, g4, g5⟩ := M2.out.z
    go_wp2
    refine bodyPost_ret (v := .tuple #[.agg #[.int .i64 0, .bool false, .int .i64 0, .int .i64 0, .int .i64 0, .int .i64 0], .bool false]) (by simp [results, Tryz.results192, go_sem, y0, y1, y2, y3, y4, y5]) rfl ⟨rfl, ?_⟩
    repeat' (first | (with_reducible exact M2.out.k) | (with_reducible apply Below.drew) | (with_reducible apply below_drewN) | (refine Below.setCell ?_ (by show w.heap.size ≤ _; dsimp only; omega) _))
  obtain ⟨_, c0, c1, c2, c3, c4, c5, f0, f1, f2, f3, f4, f5⟩ := M2.out.a
  obtain ⟨_, d0, d1, d2, d3, d4, d5, d6⟩ := M2.out.g
  cases e0 : (s != n')
  case true =>
    obtain ⟨_, y0, y1, y2, y3, y4, y5, g0, g1, g2, g3, g4, g5⟩ := M2.out.z
    go_wp2
    refine bodyPost_ret (v := .tuple #[.agg #[.int .i64 0, .bool false, .int .i64 0, .int .i64 0, .int .i64 0, .int .i64 0], .bool false]) (by simp [results, Tryz.results192, go_sem, y0, y1, y2, y3, y4, y5]) rfl ⟨(by rw [e0]; rfl), ?_⟩
    repeat' (first | (with_reducible exact M2.out.k) | (with_reducible apply Below.drew) | (with_reducible apply below_drewN) | (refine Below.setCell ?_ (by show w.heap.size ≤ _; dsimp only; omega) _))
  obtain ⟨_, y0, y1, y2, y3, y4, y5, g0, g1, g2, g3, g4, g5⟩ := M2.out.z
  go_wp2
  refine bodyPost_ret (v := .tuple #[.agg #[.int .i64 n, .bool i, .int .i64 b, .int .i64 t, .int .i64 p, .int .i64 0], .bool true]) (by simp [results, Tryz.results192, go_sem, y0, y1, y2, y3, y4, y5]) rfl ⟨(by rw [e0]; rfl), ?_⟩
  repeat' (first | (with_reducible exact M2.out.k) | (with_reducible apply Below.drew) | (with_reducible apply below_drewN) | (refine Below.setCell ?_ (by show w.heap.size ≤ _; dsimp only; omega) _))

set_option maxRecDepth 100000 in
set_option maxHeartbeats 4000000 in
theorem narrowed_any (n : Int) (i : Bool) (b t p s m n' : Int) (i' : Bool) (b' t' p' s' : Int) (n0 : 0 ≤ n) (n1 : n ≤ 65535) (w : World) :
    Calls Tryz.prog 189 #[.agg #[.int .i64 n, .bool i, .int .i64 b, .int .i64 t, .int .i64 p, .int .i64 s], .agg #[.int .i64 m, .int .i64 n', .bool i', .int .i64 b', .int .i64 t', .int .i64 p', .int .i64 s']] w fun e w' => e = .returned (.tuple #[orZ (!(s != 0) && (decide (0 ≤ m ∧ m ≤ 4096) && (bokB n (n + m) && decide (b ≤ (wd n (n + m)).1 ∧ (wd n (n + m)).2 ≤ t)))) n i (wd n (n + m)).1 (wd n (n + m)).2 p s, .bool (!(s != 0) && (decide (0 ≤ m ∧ m ≤ 4096) && (bokB n (n + m) && decide (b ≤ (wd n (n + m)).1 ∧ (wd n (n + m)).2 ≤ t))))]) ∧ Below w.heap.size w w' := by
  have s1 := sealed_any b t p s
  have s4 := implBounds_any n (n + m)
  have s5 := implWide_any n (n + m)
  obtain ⟨lo, hi, hwd⟩ : ∃ lo hi, wd n (n + m) = (lo, hi) := ⟨_, _, rfl⟩
  rw [hwd] at s5 ⊢
  simp only at s5 ⊢
  clear hwd
  have s6 := holds_any b t p s lo hi
  generalize decide (b ≤ lo ∧ hi ≤ t) = v at s6 ⊢
  generalize bokB n (n + m) = z at s4 ⊢
  obtain ⟨y, hy⟩ : ∃ y, Hid (y = (s != 0)) := ⟨_, rfl⟩
  rw [← hy.out] at s1 ⊢
  clear hy
  have hadd : (0 ≤ m ∧ m ≤ 4096) → wrap64 (n + m) = n + m := by intro h; unfold wrap64; omega
  have hmm : decide (0 ≤ m ∧ m ≤ 4096) = (!decide (m < 0) && !decide (4096 < m)) := by
    by_cases e1 : m < 0 <;> by_cases e2 : 4096 < m <;> simp [e1, e2] <;> omega
  have HA : Hid _ := hadd
  rw [hmm]
  have S1 : Hid _ := s1
  have S4 : Hid _ := s4
  have S5 : Hid _ := s5
  have S6 : Hid _ := s6
  clear s1 s4 s5 s6 hadd hmm n0 n1
  go_enter Tryz.func189, Tryz.ntmps189
  go_upto_region 1 with fail
  have M0 : Hid _ := Mkr.new w n i b t p s m n' i' b' t' p' s'
  generalize ((w.alloc (.cells #[.int .i64 n, .bool i, .int .i64 b, .int .i64 t, .int .i64 p, .int .i64 s] 38)).alloc (.cells #[.int .i64 m, .int .i64 n', .bool i', .int .i64 b', .int .i64 t', .int .i64 p', .int .i64 s'] 174)).alloc (.cells #[.int .i64 0, .bool false, .int .i64 0, .int .i64 0, .int .i64 0, .int .i64 0] 38) = W0 at M0 ⊢
  obtain ⟨_, c0, c1, c2, c3, c4, c5, _, _, _, _, _, _⟩ := M0.out.a
  go_wp2_with fail
  refine (S1.out _).mono ?_
  rintro e w1 ⟨rfl, hb1⟩
  have M1 : Hid _ := M0.out.next hb1
  clear hb1 M0 S1 c0 c1 c2 c3 c4 c5
  cases y
  case true =>
    obtain ⟨_, y0, y1, y2, y3, y4, y5, g0, g1, g2, g3, g4, g5⟩ := M1.out.z
    go_wp2
    refine bodyPost_ret (v := .tuple #[.agg #[.int .i64 0, .bool false, .int .i64 0, .int .i64 0, .int .i64 0, .int .i64 0], .bool false]) (by simp [results, Tryz.results189, go_sem, y0, y1, y2, y3, y4, y5]) rfl ⟨rfl, ?_⟩
    repeat' (first | (with_reducible exact M1.out.k) | (with_reducible apply Below.drew) | (with_reducible apply below_drewN) | (refine Below.setCell ?_ (by show w.heap.size ≤ _; dsimp only; omega) _))
  obtain ⟨_, c0, c1, c2, c3, c4, c5, _, _, _, _, _, _⟩ := M1.out.a
  obtain ⟨_, d0, d1, d2, d3, d4, d5, d6⟩ := M1.out.g
  cases e0 : decide (m < 0)
  case true =>
    obtain ⟨_, y0, y1, y2, y3, y4, y5, g0, g1, g2, g3, g4, g5⟩ := M1.out.z
    go_wp2
    refine bodyPost_ret (v := .tuple #[.agg #[.int .i64 0, .bool false, .int .i64 0, .int .i64 0, .int .i64 0, .int .i64 0], .bool false]) (by simp [results, Tryz.results189, go_sem, y0, y1, y2, y3, y4, y5]) rfl ⟨(by rw [e0]; rfl), ?_⟩
    repeat' (first | (with_reducible exact M1.out.k) | (with_reducible apply Below.drew) | (with_reducible apply below_drewN) | (refine Below.setCell ?_ (by show w.heap.size ≤ _; dsimp only; omega) _))
  cases e1 : decide (4096 < m)
  case true =>
    obtain ⟨_, y0, y1, y2, y3, y4, y5, g0, g1, g2, g3, g4, g5⟩ := M1.out.z
    go_wp2
    refine bodyPost_ret (v := .tuple #[.agg #[.int .i64 0, .bool false, .int .i64 0, .int .i64 0, .int .i64 0, .int .i64 0], .bool false]) (by simp [results, Tryz.results189, go_sem, y0, y1, y2, y3, y4, y5]) rfl ⟨(by rw [e0, e1]; rfl), ?_⟩
    repeat' (first | (with_reducible exact M1.out.k) | (with_reducible apply Below.drew) | (with_reducible apply below_drewN) | (refine Below.setCell ?_ (by show w.heap.size ≤ _; dsimp only; omega) _))
  have hadd : wrap64 (n + m) = n + m := HA.out (by simp at e0 e1; omega)
  clear HA
  go_wp2_with fail
  refine (S4.out _).mono ?_
  rintro e w2 ⟨rfl, rfl⟩
  cases z
  case false =>
    obtain ⟨_, y0, y1, y2, y3, y4, y5, g0, g1, g2, g3, g4, g5⟩ := M1.out.z
    go_wp2
    refine bodyPost_ret (v := .tuple #[.agg #[.int .i64 0, .bool false, .int .i64 0, .int .i64 0, .int .i64 0, .int .i64 0], .bool false]) (by simp [results, Tryz.results189, go_sem, y0, y1, y2, y3, y4, y5]) rfl ⟨(by rw [e0, e1]; rfl), ?_⟩
    repeat' (first | (with_reducible exact M1.out.k) | (with_reducible apply Below.drew) | (with_reducible apply below_drewN) | (refine Below.setCell ?_ (by show w.heap.size ≤ _; dsimp only; omega) _))
  go_wp2_with fail
  refine (S5.out _).mono ?_
  rintro e w2 ⟨rfl, hb2⟩
  have M2 : Hid _ := M1.out.next hb2
  clear hb2 M1 S4 S5 c0 c1 c2 c3 c4 c5 d0 d1 d2 d3 d4 d5 d6
  obtain ⟨_, c0, c1, c2, c3, c4, c5, _, _, _, _, _, _⟩ := M2.out.a
  go_wp2_with fail
  refine (S6.out _).mono ?_
  rintro e w3 ⟨rfl, hb3⟩
  have M3 : Hid _ := M2.out.next hb3
  clear hb3 M2 S6 c0 c1 c2 c3 c4 c5
  cases v
  case false =>
    obtain ⟨_, y0, y1, y2, y3, y4, y5, g0, g1, g2, g3, g4, g5⟩ := M3.out.z
    go_wp2
    refine bodyPost_ret (v := .tuple #[.agg #[.int .i64 0, .bool false, .int .i64 0, .int .i64 0, .int .i64 0, .int .i64 0], .bool false]) (by simp [results, Tryz.results189, go_sem, y0, y1, y2, y3, y4, y5]) rfl ⟨(by rw [e0, e1]; rfl), ?_⟩
    repeat' (first | (with_reducible exact M3.out.k) | (with_reducible apply Below.drew) | (with_reducible apply below_drewN) | (refine Below.setCell ?_ (by show w.heap.size ≤ _; dsimp only; omega) _))
  obtain ⟨_, c0, c1, c2, c3, c4, c5, f0, f1, f2, f3, f4, f5⟩ := M3.out.a
  obtain ⟨_, y0, y1, y2, y3, y4, y5, g0, g1, g2, g3, g4, g5⟩ := M3.out.z
  go_wp2
  refine bodyPost_ret (v := .tuple #[.agg #[.int .i64 n, .bool i, .int .i64 lo, .int .i64 hi, .int .i64 p, .int .i64 s], .bool true]) (by simp [results, Tryz.results189, go_sem, y0, y1, y2, y3, y4, y5]) rfl ⟨(by rw [e0, e1]; rfl), ?_⟩
  repeat' (first | (with_reducible exact M3.out.k) | (with_reducible apply Below.drew) | (with_reducible apply below_drewN) | (refine Below.setCell ?_ (by show w.heap.size ≤ _; dsimp only; omega) _))
end Go.Proofs.YtpkhnajhamnggaaGreatDoor

namespace Go.Proofs.YtpkhnajhamnggaaGreatDoor
open Go.ChangeShapes Go.WideShapes Go.ChangeAt Go.RowKit

/-- The names, as bytes. -/
abbrev sWeaken : ByteArray := ⟨#[119, 101, 97, 107, 101, 110]⟩
abbrev sNarrow : ByteArray := ⟨#[110, 97, 114, 114, 111, 119]⟩
abbrev sPoint : ByteArray := ⟨#[112, 111, 105, 110, 116]⟩
abbrev sSeal : ByteArray := ⟨#[115, 101, 97, 108]⟩
abbrev sOpen : ByteArray := ⟨#[111, 112, 101, 110]⟩

/-- What the map holds. -/
def made5 : Array MapEntry := #[⟨.string sWeaken, .func (.func 188) #[] #[], 0⟩, ⟨.string sNarrow, .func (.func 189) #[] #[], 1⟩, ⟨.string sPoint, .func (.func 190) #[] #[], 2⟩, ⟨.string sSeal, .func (.func 191) #[] #[], 3⟩, ⟨.string sOpen, .func (.func 192) #[] #[], 4⟩]

theorem set_last (w : World) (o o' : Obj) : ({ (w.alloc o) with heap := (w.alloc o).heap.setIfInBounds w.heap.size o' } : World) = w.alloc o' := by
  have h : (w.heap.push o).setIfInBounds w.heap.size o' = w.heap.push o' := by
    apply Array.ext'
    simp
  show ({ w with heap := (w.heap.push o).setIfInBounds w.heap.size o' } : World) = { w with heap := w.heap.push o' }
  rw [h]

theorem run_insert (w : World) (es : Array MapEntry) (c : Nat) (s : ByteArray) (v : Value) (hf : Instr.findNow .string (.string s) es.toList 0 = some none) :
    (Instr.mapUpdate 204 (.map (some w.heap.size)) (.string s) v).run Tryz.prog (w.alloc (.map es c)) = .ok () (w.alloc (.map (es.push ⟨.string s, v, c⟩) (c + 1))) := by
  have hb := (MapKept.heap_alloc w (.map es c)).1
  have h1 := MapKept.run_getObj_map (P := Tryz.prog) hb
  have h2 := MapKept.run_checkKey (P := Tryz.prog) (w := w.alloc (.map es c)) (kt := 9) (k := .string s) Tryz.underlying9 (by trivial) false 9999
  have h3 := MapKept.run_findKey (P := Tryz.prog) (w := w.alloc (.map es c)) (kt := 9) (k := .string s) (l := es.toList) Tryz.underlying9 hf
  have h4 := MapKept.run_setObj_map (P := Tryz.prog) (.map (es.push ⟨.string s, v, c⟩) (c + 1)) hb
  rw [set_last] at h4
  simp [Instr.mapUpdate, go_sem, h1, h2, h3, h4]

/-- A look-up of a name that is there. -/
theorem run_look (w : World) (r : Nat) (s : ByteArray) (i : Nat) (v : Value) (hb : w.heap[r]? = some (.map made5 5)) (hf : Instr.findNow .string (.string s) made5.toList 0 = some (some (i, v))) :
    (Instr.lookup 204 (.map (some r)) (.string s) false).run Tryz.prog w = .ok v w := by
  have h1 := MapKept.run_getObj_map (P := Tryz.prog) hb
  have h2 := MapKept.run_checkKey (P := Tryz.prog) (w := w) (kt := 9) (k := .string s) Tryz.underlying9 (by trivial) false 9999
  have h3 := MapKept.run_findKey (P := Tryz.prog) (w := w) (kt := 9) (k := .string s) (l := made5.toList) Tryz.underlying9 hf
  have h0 : made5.isEmpty = false := rfl
  simp [Instr.lookup, go_sem, h0, h1, h2, h3]

theorem inserts (w : World) : ∃ m1 m2 m3 m4 : Obj,
    (Instr.mapUpdate 204 (.map (some w.heap.size)) (.string sWeaken) (.func (.func 188) #[] #[])).run Tryz.prog (w.alloc (.map #[] 0)) = .ok () (w.alloc m1) ∧
    (Instr.mapUpdate 204 (.map (some w.heap.size)) (.string sNarrow) (.func (.func 189) #[] #[])).run Tryz.prog (w.alloc m1) = .ok () (w.alloc m2) ∧
    (Instr.mapUpdate 204 (.map (some w.heap.size)) (.string sPoint) (.func (.func 190) #[] #[])).run Tryz.prog (w.alloc m2) = .ok () (w.alloc m3) ∧
    (Instr.mapUpdate 204 (.map (some w.heap.size)) (.string sSeal) (.func (.func 191) #[] #[])).run Tryz.prog (w.alloc m3) = .ok () (w.alloc m4) ∧
    (Instr.mapUpdate 204 (.map (some w.heap.size)) (.string sOpen) (.func (.func 192) #[] #[])).run Tryz.prog (w.alloc m4) = .ok () (w.alloc (.map made5 5)) :=
  ⟨_, _, _, _, run_insert w #[] 0 sWeaken _ (by kernel_rfl), run_insert w _ 1 sNarrow _ (by kernel_rfl), run_insert w _ 2 sPoint _ (by kernel_rfl), run_insert w _ 3 sSeal _ (by kernel_rfl), run_insert w _ 4 sOpen _ (by kernel_rfl)⟩

set_option maxHeartbeats 1000000 in
theorem makers_any (w : World) :
    Calls Tryz.prog 174 #[] w fun e w' => e = .returned (.map (some w.heap.size)) ∧ w' = w.alloc (.map made5 5) := by
  have q0 := @run_makeMap Tryz.prog
  obtain ⟨m1, m2, m3, m4, q1, q2, q3, q4, q5⟩ := inserts w
  go_enter Tryz.func174, Tryz.ntmps174
  go_wp2
  go_ret
  exact ⟨rfl, rfl⟩
end Go.Proofs.YtpkhnajhamnggaaGreatDoor

namespace Go.Proofs.YtpkhnajhamnggaaGreatDoor
open Go.ChangeShapes Go.WideShapes Go.ChangeAt Go.RowKit

/-- The blocks of madeOr: the first word, the word, what is given beside it, the answer's. -/
structure Mor (w0 : World) (o0 : Int) (o1 : Bool) (o2 o3 o4 o5 n : Int) (i : Bool) (b t p s m n' : Int) (i' : Bool) (b' t' p' s' : Int) (w : World) : Prop where
  o : Six w w0.heap.size o0 o1 o2 o3 o4 o5
  a : Six w (w0.heap.size + 1) n i b t p s
  g : Seven w (w0.heap.size + 1 + 1) m n' i' b' t' p' s'
  z : Six w (w0.heap.size + 1 + 1 + 1) 0 false 0 0 0 0
  k : Below w0.heap.size w0 w
section
variable {w0 w w' : World} {o0 : Int} {o1 : Bool} {o2 o3 o4 o5 n : Int} {i : Bool} {b t p s m n' : Int} {i' : Bool} {b' t' p' s' : Int}
theorem Mor.next (h : Mor w0 o0 o1 o2 o3 o4 o5 n i b t p s m n' i' b' t' p' s' w) (hb : Below w.heap.size w w') : Mor w0 o0 o1 o2 o3 o4 o5 n i b t p s m n' i' b' t' p' s' w' :=
  ⟨h.o.below hb, h.a.below hb, h.g.below hb, h.z.below hb, h.k.trans (hb.mono h.k.size)⟩
theorem Aft.mor {W : World} (h : Aft W w) (f : Mor w0 o0 o1 o2 o3 o4 o5 n i b t p s m n' i' b' t' p' s' W) : Mor w0 o0 o1 o2 o3 o4 o5 n i b t p s m n' i' b' t' p' s' w := f.next h
end
theorem Six.fourth (w : World) (o o' o'' : Obj) (n : Int) (i : Bool) (b t p s : Int) (T : TypeId) : Six ((((w.alloc o).alloc o').alloc o'').alloc (.cells #[.int .i64 n, .bool i, .int .i64 b, .int .i64 t, .int .i64 p, .int .i64 s] T)) (w.heap.size + 1 + 1 + 1) n i b t p s := by
  have h := Six.new (((w.alloc o).alloc o').alloc o'') n i b t p s T
  rw [World.size_alloc, World.size_alloc, World.size_alloc] at h
  exact h
theorem Seven.third (w : World) (o o' : Obj) (m n : Int) (i : Bool) (b t p s : Int) (T : TypeId) : Seven (((w.alloc o).alloc o').alloc (.cells #[.int .i64 m, .int .i64 n, .bool i, .int .i64 b, .int .i64 t, .int .i64 p, .int .i64 s] T)) (w.heap.size + 1 + 1) m n i b t p s := by
  have h := Seven.second (w.alloc o) o' m n i b t p s T
  rw [World.size_alloc] at h
  exact h
theorem Mor.new (w : World) (o0 : Int) (o1 : Bool) (o2 o3 o4 o5 n : Int) (i : Bool) (b t p s m n' : Int) (i' : Bool) (b' t' p' s' : Int) :
    Mor w o0 o1 o2 o3 o4 o5 n i b t p s m n' i' b' t' p' s' ((((w.alloc (.cells #[.int .i64 o0, .bool o1, .int .i64 o2, .int .i64 o3, .int .i64 o4, .int .i64 o5] 38)).alloc (.cells #[.int .i64 n, .bool i, .int .i64 b, .int .i64 t, .int .i64 p, .int .i64 s] 38)).alloc (.cells #[.int .i64 m, .int .i64 n', .bool i', .int .i64 b', .int .i64 t', .int .i64 p', .int .i64 s'] 174)).alloc (.cells #[.int .i64 0, .bool false, .int .i64 0, .int .i64 0, .int .i64 0, .int .i64 0] 38)) :=
  ⟨(((Six.new w o0 o1 o2 o3 o4 o5 _).alloc _).alloc _).alloc _, ((Six.second w _ n i b t p s _).alloc _).alloc _, (Seven.third w _ _ m n' i' b' t' p' s' _).alloc _, Six.fourth w _ _ _ 0 false 0 0 0 0 _,
    ((((Below.refl _ w).alloc (Nat.le_refl _) _).alloc (by simp) _).alloc (by simp; omega) _).alloc (by simp; omega) _⟩

theorem makers_at (w : World) :
    Calls Tryz.prog 174 #[] w fun e w' => ∃ r, e = .returned (.map (some r)) ∧ w'.heap[r]? = some (.map made5 5) ∧ Below w.heap.size w w' := by
  refine (makers_any w).mono ?_
  rintro e w' ⟨rfl, rfl⟩
  exact ⟨_, rfl, (MapKept.heap_alloc w _).1, (Below.refl _ _).alloc (Nat.le_refl _) _⟩

set_option maxRecDepth 100000 in
set_option maxHeartbeats 20000000 in
theorem madeOr_any (o0 : Int) (o1 : Bool) (o2 o3 o4 o5 n : Int) (i : Bool) (b t p s m n' : Int) (i' : Bool) (b' t' p' s' : Int) (nm : ByteArray) (F j : Nat) (v0 : Int) (v1 : Bool) (v2 v3 v4 v5 : Int) (ok : Bool) (w : World)
    (hc : ∀ (args : Array Value) (w : World), (callFunc F args).run Tryz.prog w = .ok (.enter F args) w)
    (hl : Instr.findNow .string (.string nm) made5.toList 0 = some (some (j, .func (.func F) #[] #[])))
    (hf : rkB n i b t p s = true → ∀ w, Calls Tryz.prog F #[.agg #[.int .i64 n, .bool i, .int .i64 b, .int .i64 t, .int .i64 p, .int .i64 s], .agg #[.int .i64 m, .int .i64 n', .bool i', .int .i64 b', .int .i64 t', .int .i64 p', .int .i64 s']] w fun e w' => e = .returned (.tuple #[.agg #[.int .i64 v0, .bool v1, .int .i64 v2, .int .i64 v3, .int .i64 v4, .int .i64 v5], .bool ok]) ∧ Below w.heap.size w w') :
    Calls Tryz.prog 141 #[.agg #[.int .i64 o0, .bool o1, .int .i64 o2, .int .i64 o3, .int .i64 o4, .int .i64 o5], .string nm, .agg #[.int .i64 n, .bool i, .int .i64 b, .int .i64 t, .int .i64 p, .int .i64 s], .agg #[.int .i64 m, .int .i64 n', .bool i', .int .i64 b', .int .i64 t', .int .i64 p', .int .i64 s']] w fun e w' => e = .returned (.agg #[.int .i64 (bif rkB n i b t p s && ok then v0 else o0), .bool (bif rkB n i b t p s && ok then v1 else o1), .int .i64 (bif rkB n i b t p s && ok then v2 else o2), .int .i64 (bif rkB n i b t p s && ok then v3 else o3), .int .i64 (bif rkB n i b t p s && ok then v4 else o4), .int .i64 (bif rkB n i b t p s && ok then v5 else o5)]) ∧ Below w.heap.size w w' := by
  have s1 := rightKey_any n i b t p s
  generalize rkB n i b t p s = x at s1 hf ⊢
  have S1 : Hid _ := s1
  have S2 : Hid _ := hf
  have S3 : Hid _ := hl
  clear s1 hf hl
  go_enter Tryz.func141, Tryz.ntmps141
  go_upto_region 1 with fail
  have M0 : Hid _ := Mor.new w o0 o1 o2 o3 o4 o5 n i b t p s m n' i' b' t' p' s'
  generalize (((w.alloc (.cells #[.int .i64 o0, .bool o1, .int .i64 o2, .int .i64 o3, .int .i64 o4, .int .i64 o5] 38)).alloc (.cells #[.int .i64 n, .bool i, .int .i64 b, .int .i64 t, .int .i64 p, .int .i64 s] 38)).alloc (.cells #[.int .i64 m, .int .i64 n', .bool i', .int .i64 b', .int .i64 t', .int .i64 p', .int .i64 s'] 174)).alloc (.cells #[.int .i64 0, .bool false, .int .i64 0, .int .i64 0, .int .i64 0, .int .i64 0] 38) = W0 at M0 ⊢
  obtain ⟨_, c0, c1, c2, c3, c4, c5, _, _, _, _, _, _⟩ := M0.out.a
  go_wp2_with fail
  refine (S1.out _).mono ?_
  rintro e w1 ⟨rfl, hb1⟩
  have M1 : Hid _ := M0.out.next hb1
  clear hb1 M0 S1 c0 c1 c2 c3 c4 c5
  cases x
  case false =>
    obtain ⟨_, c0, c1, c2, c3, c4, c5, _, _, _, _, _, _⟩ := M1.out.o
    obtain ⟨_, y0, y1, y2, y3, y4, y5, g0, g1, g2, g3, g4, g5⟩ := M1.out.z
    go_wp2
    refine bodyPost_ret (v := .agg #[.int .i64 o0, .bool o1, .int .i64 o2, .int .i64 o3, .int .i64 o4, .int .i64 o5]) (by simp [results, Tryz.results141, go_sem, y0, y1, y2, y3, y4, y5]) rfl ⟨rfl, ?_⟩
    repeat' (first | (with_reducible exact M1.out.k) | (refine Below.setCell ?_ (by show w.heap.size ≤ _; dsimp only; omega) _))
  have S4 : Hid _ := S2.out rfl
  clear S2
  go_upto_region 3 with fail
  have ALL : Hid (∀ w', Aft w1 w' → w'.cell? ⟨w.heap.size + 1, 0, none⟩ = some (.int .i64 n) ∧ w'.cell? ⟨w.heap.size + 1, 1, none⟩ = some (.bool i) ∧ w'.cell? ⟨w.heap.size + 1, 2, none⟩ = some (.int .i64 b) ∧ w'.cell? ⟨w.heap.size + 1, 3, none⟩ = some (.int .i64 t) ∧ w'.cell? ⟨w.heap.size + 1, 4, none⟩ = some (.int .i64 p) ∧ w'.cell? ⟨w.heap.size + 1, 5, none⟩ = some (.int .i64 s) ∧ w'.cell? ⟨w.heap.size + 1 + 1, 0, none⟩ = some (.int .i64 m) ∧ w'.cell? ⟨w.heap.size + 1 + 1, 1, none⟩ = some (.int .i64 n') ∧ w'.cell? ⟨w.heap.size + 1 + 1, 2, none⟩ = some (.bool i') ∧ w'.cell? ⟨w.heap.size + 1 + 1, 3, none⟩ = some (.int .i64 b') ∧ w'.cell? ⟨w.heap.size + 1 + 1, 4, none⟩ = some (.int .i64 t') ∧ w'.cell? ⟨w.heap.size + 1 + 1, 5, none⟩ = some (.int .i64 p') ∧ w'.cell? ⟨w.heap.size + 1 + 1, 6, none⟩ = some (.int .i64 s') ∧ Hid (Aft w1 w')) := fun w' h => by
    obtain ⟨_, c0, c1, c2, c3, c4, c5, _, _, _, _, _, _⟩ := (h.mor M1.out).a
    obtain ⟨_, d0, d1, d2, d3, d4, d5, d6⟩ := (h.mor M1.out).g
    exact ⟨c0, c1, c2, c3, c4, c5, d0, d1, d2, d3, d4, d5, d6, h⟩
  have GET : Hid (∀ w', w'.cell? ⟨w.heap.size + 1, 0, none⟩ = some (.int .i64 n) ∧ w'.cell? ⟨w.heap.size + 1, 1, none⟩ = some (.bool i) ∧ w'.cell? ⟨w.heap.size + 1, 2, none⟩ = some (.int .i64 b) ∧ w'.cell? ⟨w.heap.size + 1, 3, none⟩ = some (.int .i64 t) ∧ w'.cell? ⟨w.heap.size + 1, 4, none⟩ = some (.int .i64 p) ∧ w'.cell? ⟨w.heap.size + 1, 5, none⟩ = some (.int .i64 s) ∧ w'.cell? ⟨w.heap.size + 1 + 1, 0, none⟩ = some (.int .i64 m) ∧ w'.cell? ⟨w.heap.size + 1 + 1, 1, none⟩ = some (.int .i64 n') ∧ w'.cell? ⟨w.heap.size + 1 + 1, 2, none⟩ = some (.bool i') ∧ w'.cell? ⟨w.heap.size + 1 + 1, 3, none⟩ = some (.int .i64 b') ∧ w'.cell? ⟨w.heap.size + 1 + 1, 4, none⟩ = some (.int .i64 t') ∧ w'.cell? ⟨w.heap.size + 1 + 1, 5, none⟩ = some (.int .i64 p') ∧ w'.cell? ⟨w.heap.size + 1 + 1, 6, none⟩ = some (.int .i64 s') ∧ Hid (Aft w1 w') → Aft w1 w') := fun w' h => h.2.2.2.2.2.2.2.2.2.2.2.2.2
  have A0 : Hid (Aft w1 w1.drew) := (Aft.refl _).drew
  go_cut [9, 10] (fun u9 u10 wx => ∃ q : Nat, u9 = .pointer (some ⟨q, 0, none⟩) ∧ u10 = .bool ok ∧ Hid (Six wx q v0 v1 v2 v3 v4 v5) ∧ Hid (Aft w1 wx))
  case first =>
    go_region_held3 (fun w' => w'.cell? ⟨w.heap.size + 1, 0, none⟩ = some (.int .i64 n) ∧ w'.cell? ⟨w.heap.size + 1, 1, none⟩ = some (.bool i) ∧ w'.cell? ⟨w.heap.size + 1, 2, none⟩ = some (.int .i64 b) ∧ w'.cell? ⟨w.heap.size + 1, 3, none⟩ = some (.int .i64 t) ∧ w'.cell? ⟨w.heap.size + 1, 4, none⟩ = some (.int .i64 p) ∧ w'.cell? ⟨w.heap.size + 1, 5, none⟩ = some (.int .i64 s) ∧ w'.cell? ⟨w.heap.size + 1 + 1, 0, none⟩ = some (.int .i64 m) ∧ w'.cell? ⟨w.heap.size + 1 + 1, 1, none⟩ = some (.int .i64 n') ∧ w'.cell? ⟨w.heap.size + 1 + 1, 2, none⟩ = some (.bool i') ∧ w'.cell? ⟨w.heap.size + 1 + 1, 3, none⟩ = some (.int .i64 b') ∧ w'.cell? ⟨w.heap.size + 1 + 1, 4, none⟩ = some (.int .i64 t') ∧ w'.cell? ⟨w.heap.size + 1 + 1, 5, none⟩ = some (.int .i64 p') ∧ w'.cell? ⟨w.heap.size + 1 + 1, 6, none⟩ = some (.int .i64 s') ∧ Hid (Aft w1 w')) (first | (with_reducible assumption) | (((with_reducible refine ALL.out _ ?_); (first | (with_reducible apply A0.out) | ((with_reducible apply Aft.drew); (with_reducible apply Aft.alloc); (with_reducible exact Aft.refl _)) | ((with_reducible apply Aft.call ?_ H1.out); (with_reducible exact GET.out _ (by with_reducible assumption))) | ((with_reducible apply Aft.call ?_ H2.out); (with_reducible exact GET.out _ (by with_reducible assumption))) | ((with_reducible apply Aft.realloc (GET.out _ (by with_reducible assumption))); omega) | ((with_reducible apply Aft.alloc); (with_reducible exact GET.out _ (by with_reducible assumption))) | ((iterate 6 (with_reducible refine Aft.set ?_ (by omega))); (with_reducible exact GET.out _ (by with_reducible assumption))) | fail))))
      (first
        | (go_at_call 174; refine (makers_at _).mono ?_; rintro e w2 ⟨r, rfl, hr, hb1⟩; have q1 := run_look w2 r nm j _ hr S3.out; have q2 := run_look (w2.alloc (.cells #[.int .i64 0, .bool false, .int .i64 0, .int .i64 0, .int .i64 0, .int .i64 0] 38)) r nm j _ (((MapKept.heap_alloc w2 _).2 r (by have := Array.getElem?_eq_some_iff.1 hr; exact this.1)).trans hr) S3.out; have H1 : Hid _ := hb1; have l1 := hb1.size; (try simp at l1); (first | (with_reducible have Z1 := hid_mk ((Six.new _ 0 false 0 0 0 0 38).below hb1); obtain ⟨zl1, zc0, zc1, zc2, zc3, zc4, zc5, zf0, zf1, zf2, zf3, zf4, zf5⟩ := Z1.out) | (with_reducible have Z1 := hid_mk ((Six.new _ 0 false 0 0 0 0 38).drew.below hb1); obtain ⟨zl1, zc0, zc1, zc2, zc3, zc4, zc5, zf0, zf1, zf2, zf3, zf4, zf5⟩ := Z1.out) | skip); clear hb1 hr)
        | ((with_reducible show Calls Tryz.prog F _ _ _); refine (S4.out _).mono ?_; rintro e w3 ⟨rfl, hb2⟩; have H2 : Hid _ := hb2; have l2 := hb2.size; (try simp at l2); (first | (have Z2 : Hid _ := Z1.out.below hb2; obtain ⟨zl2, zc0, zc1, zc2, zc3, zc4, zc5, zf0, zf1, zf2, zf3, zf4, zf5⟩ := Z2.out) | (with_reducible have Z2 := hid_mk ((Six.new _ 0 false 0 0 0 0 38).below hb2); obtain ⟨zl2, zc0, zc1, zc2, zc3, zc4, zc5, zf0, zf1, zf2, zf3, zf4, zf5⟩ := Z2.out) | (with_reducible have Z2 := hid_mk ((Six.new _ 0 false 0 0 0 0 38).drew.below hb2); obtain ⟨zl2, zc0, zc1, zc2, zc3, zc4, zc5, zf0, zf1, zf2, zf3, zf4, zf5⟩ := Z2.out) | skip); clear hb2))
    all_goals
      go_wp2_with fail
      go_meet
      case rel =>
        refine ⟨_, rfl, rfl, ⟨?_, by go_simp, by go_simp, by go_simp, by go_simp, by go_simp, by go_simp, by go_simp, by go_simp, by go_simp, by go_simp, by go_simp, by go_simp⟩, GET.out _ (by with_reducible assumption)⟩
        first | (simp; done) | (simp; omega)
  case rest =>
    obtain ⟨q, rfl, rfl, F1, hA⟩ := hcut
    have M2 : Hid _ := hA.out.mor M1.out
    clear ALL GET A0 hA M1 S3 S4
    obtain ⟨_, y0, y1, y2, y3, y4, y5, g0, g1, g2, g3, g4, g5⟩ := M2.out.z
    cases ok
    · obtain ⟨_, c0, c1, c2, c3, c4, c5, _, _, _, _, _, _⟩ := M2.out.o
      go_wp2
      refine bodyPost_ret (v := .agg #[.int .i64 o0, .bool o1, .int .i64 o2, .int .i64 o3, .int .i64 o4, .int .i64 o5]) (by simp [results, Tryz.results141, go_sem, y0, y1, y2, y3, y4, y5]) rfl ⟨rfl, ?_⟩
      repeat' (first | (with_reducible exact M2.out.k) | (refine Below.setCell ?_ (by show w.heap.size ≤ _; dsimp only; omega) _))
    · obtain ⟨_, c0, c1, c2, c3, c4, c5, _, _, _, _, _, _⟩ := F1.out
      go_wp2
      refine bodyPost_ret (v := .agg #[.int .i64 v0, .bool v1, .int .i64 v2, .int .i64 v3, .int .i64 v4, .int .i64 v5]) (by simp [results, Tryz.results141, go_sem, y0, y1, y2, y3, y4, y5]) rfl ⟨rfl, ?_⟩
      repeat' (first | (with_reducible exact M2.out.k) | (refine Below.setCell ?_ (by show w.heap.size ≤ _; dsimp only; omega) _))
end Go.Proofs.YtpkhnajhamnggaaGreatDoor
