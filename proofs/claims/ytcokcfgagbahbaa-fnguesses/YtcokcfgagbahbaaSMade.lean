/- Weaken, Narrow, Point, SealBy and OpenBy of the specification, at all words: what they answer. No condition. -/
import Derived.Test.YtcokcfgagbahbaaOpen
import Derived.Test.YtcokcfgagbahbaaWordK
namespace Go.Proofs.Ytcokcfgagbahbaa
open Go.ChangeShapes Go.WideShapes Go.ChangeAt Go.RowKit

/-- A word that is made where c, and bare elsewhere. -/
abbrev madeV (n : Int) (c : Bool) (b t p s : Int) : Value :=
  .agg #[.int .i64 n, .bool c, .int .i64 (bif c then b else 0), .int .i64 (bif c then t else 0), .int .i64 (bif c then p else 0), .int .i64 (bif c then s else 0)]

theorem rk_of {n : Int} {i : Bool} {b t p s : Int} (h : rkB n i b t p s = true) : i = true ∧ n % 65536 = n ∧ 0 ≤ n ∧ n ≤ 65535 ∧ kokB b t p s = true := by
  unfold rkB wokB at h
  cases i <;> simp at h
  exact ⟨rfl, by omega, by omega, by omega, h.2⟩
theorem open_of {n : Int} {i : Bool} {b t p s : Int} (h : openB n i b t p s = true) : i = true ∧ s = 0 ∧ n % 65536 = n ∧ 0 ≤ n ∧ n ≤ 65535 := by
  unfold openB at h
  simp only [Bool.and_eq_true, beq_iff_eq] at h
  have g := rk_of h.1
  exact ⟨g.1, h.2, g.2.1, g.2.2.1, g.2.2.2.1⟩

/-- Whether Narrow makes a key. -/
def narB (n : Int) (i : Bool) (b t p s m : Int) : Bool :=
  openB n i b t p s && (decide (0 ≤ m ∧ m ≤ 4096) && (bokB n (n + m) && decide (b ≤ (wd n (n + m)).1 ∧ (wd n (n + m)).2 ≤ t)))
/-- Whether OpenBy makes a key. -/
def opnB (n : Int) (i : Bool) (b t p s n' : Int) (i' : Bool) (b' t' p' s' : Int) : Bool :=
  rkB n i b t p s && (mayB n' i' b' t' p' s' && (s == n'))

set_option maxRecDepth 100000 in
set_option maxHeartbeats 2000000 in
theorem specPoint_any (n : Int) (i : Bool) (b t p s : Int) (m : Int) (w : World) :
    Calls Try.prog 38 #[.agg #[.int .i64 n, .bool i, .int .i64 b, .int .i64 t, .int .i64 p, .int .i64 s], .int .i64 m] w fun e w' => e = .returned (madeV (m % 65536) (openB n i b t p s) b t p s) ∧ Below w.heap.size w w' := by
  have s1 := l4Open_any n i b t p s
  have s2 := specPlain_any m
  have q := i64_and65535 m
  have H : openB n i b t p s = true → _ := open_of (n := n) (i := i) (b := b) (t := t) (p := p) (s := s)
  obtain ⟨k, hk⟩ : ∃ k, Hid (k = m % 65536) := ⟨_, rfl⟩
  rw [← hk.out] at s2 q ⊢
  generalize openB n i b t p s = x at s1 H ⊢
  have S1 : Hid _ := s1
  have S2 : Hid _ := s2
  clear s1 s2 hk
  cases x
  · simp only [madeV, cond_false]
    clear H q
    go_enter Try.func38, Try.ntmps38
    go_wp2_with fail
    refine (S1.out _).mono ?_
    rintro e w1 ⟨rfl, hb1⟩
    have A1 : Hid _ := ((Six.new w n i b t p s 28).alloc (.cells #[.int .i64 0, .bool false, .int .i64 0, .int .i64 0, .int .i64 0, .int .i64 0] 28)).below hb1
    have Z1 : Hid _ := (Six.second w (.cells #[.int .i64 n, .bool i, .int .i64 b, .int .i64 t, .int .i64 p, .int .i64 s] 28) 0 false 0 0 0 0 28).below hb1
    have K1 : Hid (Below w.heap.size w w1) := (((Below.refl _ w).alloc (Nat.le_refl _) _).alloc (by simp) _).trans (hb1.mono (by simp; omega))
    clear hb1
    obtain ⟨_, c0, c1, c2, c3, c4, c5, _, _, _, _, _, _⟩ := A1.out
    go_wp2_with fail
    refine (S2.out _).mono ?_
    rintro e w9 ⟨rfl, hb9⟩
    have K9 : Hid (Below w.heap.size w w9) := K1.out.trans (hb9.mono K1.out.size)
    obtain ⟨_, y0, y1, y2, y3, y4, y5, g0, g1, g2, g3, g4, g5⟩ := Z1.out.below hb9
    clear hb9 A1 Z1 K1
    clear c0 c1 c2 c3 c4 c5
    go_wp2
    refine bodyPost_ret (v := .agg #[.int .i64 k, .bool false, .int .i64 0, .int .i64 0, .int .i64 0, .int .i64 0]) (by simp [results, Try.results38, go_sem, y0, y1, y2, y3, y4, y5]) rfl ⟨rfl, ?_⟩
    repeat' (first | (with_reducible exact K9.out) | (refine Below.setCell ?_ (by show w.heap.size ≤ _; dsimp only; omega) _))
  · obtain ⟨rfl, rfl, hn, _, _⟩ := H rfl
    clear H hn S2
    simp only [madeV, cond_true]
    go_enter Try.func38, Try.ntmps38
    go_wp2_with fail
    refine (S1.out _).mono ?_
    rintro e w1 ⟨rfl, hb1⟩
    have A1 : Hid _ := ((Six.new w n true b t p 0 28).alloc (.cells #[.int .i64 0, .bool false, .int .i64 0, .int .i64 0, .int .i64 0, .int .i64 0] 28)).below hb1
    have Z1 : Hid _ := (Six.second w (.cells #[.int .i64 n, .bool true, .int .i64 b, .int .i64 t, .int .i64 p, .int .i64 0] 28) 0 false 0 0 0 0 28).below hb1
    have K1 : Hid (Below w.heap.size w w1) := (((Below.refl _ w).alloc (Nat.le_refl _) _).alloc (by simp) _).trans (hb1.mono (by simp; omega))
    clear hb1
    obtain ⟨_, c0, c1, c2, c3, c4, c5, f0, f1, f2, f3, f4, f5⟩ := A1.out
    obtain ⟨_, y0, y1, y2, y3, y4, y5, g0, g1, g2, g3, g4, g5⟩ := Z1.out
    go_wp2
    refine bodyPost_ret (v := .agg #[.int .i64 k, .bool true, .int .i64 b, .int .i64 t, .int .i64 p, .int .i64 0]) (by simp [results, Try.results38, go_sem, y0, y1, y2, y3, y4, y5]) rfl ⟨rfl, ?_⟩
    repeat' (first | (with_reducible exact K1.out) | (refine Below.setCell ?_ (by show w.heap.size ≤ _; dsimp only; omega) _))

end Go.Proofs.Ytcokcfgagbahbaa
