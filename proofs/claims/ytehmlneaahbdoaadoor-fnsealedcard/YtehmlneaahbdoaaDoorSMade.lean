/- Weaken, Narrow, Point, SealBy and OpenBy of the specification, at all words: what they answer. No condition. -/
import Derived.Test.YtehmlneaahbdoaaDoorOpen
import Derived.Test.YtehmlneaahbdoaaDoorWordK
namespace Go.Proofs.YtehmlneaahbdoaaDoor
open Go.ChangeShapes Go.WideShapes Go.ChangeAt Go.RowKit

/-- A word that is made where c, and bare elsewhere. -/
abbrev madeV (n : Int) (c : Bool) (b t p s : Int) : Value :=
  .agg #[.int .i64 n, .bool c, .int .i64 (bif c then b else 0), .int .i64 (bif c then t else 0), .int .i64 (bif c then p else 0), .int .i64 (bif c then s else 0)]

theorem rk_of {n : Int} {i : Bool} {b t p s : Int} (h : rkB n i b t p s = true) : i = true ∧ n % 65536 = n ∧ 0 ≤ n ∧ n ≤ 65535 ∧ kokB b t p s = true := by
  unfold rkB wokB at h
  cases i <;> simp at h
  exact ⟨rfl, by omega, by omega, by omega, h.2⟩
theorem open_of {n : Int} {i : Bool} {b t p s : Int} (h : openB n i b t p s = true) : i = true ∧ s = 0 ∧ n % 65536 = n ∧ 0 ≤ n ∧ n ≤ 65535 := by
  unfold openB at h
  simp only [Bool.and_eq_true, beq_iff_eq] at h
  have g := rk_of h.1
  exact ⟨g.1, h.2, g.2.1, g.2.2.1, g.2.2.2.1⟩

/-- Whether Narrow makes a key. -/
def narB (n : Int) (i : Bool) (b t p s m : Int) : Bool :=
  openB n i b t p s && (decide (0 ≤ m ∧ m ≤ 4096) && (bokB n (n + m) && decide (b ≤ (wd n (n + m)).1 ∧ (wd n (n + m)).2 ≤ t)))
/-- Whether OpenBy makes a key. -/
def opnB (n : Int) (i : Bool) (b t p s n' : Int) (i' : Bool) (b' t' p' s' : Int) : Bool :=
  rkB n i b t p s && (mayB n' i' b' t' p' s' && (s == n'))

set_option maxRecDepth 100000 in
set_option maxHeartbeats 2000000 in
theorem specSealBy_any (n : Int) (i : Bool) (b t p s : Int) (n' : Int) (i' : Bool) (b' t' p' s' : Int) (w : World) :
    Calls Tryd.prog 9 #[.agg #[.int .i64 n, .bool i, .int .i64 b, .int .i64 t, .int .i64 p, .int .i64 s], .agg #[.int .i64 n', .bool i', .int .i64 b', .int .i64 t', .int .i64 p', .int .i64 s']] w fun e w' => e = .returned (madeV (n % 65536) (openB n i b t p s && mayB n' i' b' t' p' s') b t p n') ∧ Below w.heap.size w w' := by
  have s1 := l4Open_any n i b t p s
  have s2 := specBare_any n i b t p s
  have s3 := l4Sealer_any n' i' b' t' p' s'
  have H : openB n i b t p s = true → _ := open_of (n := n) (i := i) (b := b) (t := t) (p := p) (s := s)
  obtain ⟨k, hk⟩ : ∃ k, Hid (k = n % 65536) := ⟨_, rfl⟩
  rw [← hk.out] at s2 ⊢
  generalize openB n i b t p s = x at s1 H ⊢
  generalize mayB n' i' b' t' p' s' = y at s3 ⊢
  have S1 : Hid _ := s1
  have S2 : Hid _ := s2
  have S3 : Hid _ := s3
  clear s1 s2 s3
  cases x
  · simp only [madeV, Bool.false_and, cond_false]
    clear H hk
    go_enter Tryd.func9, Tryd.ntmps9
    go_wp2_with fail
    refine (S1.out _).mono ?_
    rintro e w1 ⟨rfl, hb1⟩
    have A1 : Hid _ := (((Six.new w n i b t p s 27).alloc (.cells #[.int .i64 n', .bool i', .int .i64 b', .int .i64 t', .int .i64 p', .int .i64 s'] 27)).alloc (.cells #[.int .i64 0, .bool false, .int .i64 0, .int .i64 0, .int .i64 0, .int .i64 0] 27)).below hb1
    have B1 : Hid _ := ((Six.second w (.cells #[.int .i64 n, .bool i, .int .i64 b, .int .i64 t, .int .i64 p, .int .i64 s] 27) n' i' b' t' p' s' 27).alloc (.cells #[.int .i64 0, .bool false, .int .i64 0, .int .i64 0, .int .i64 0, .int .i64 0] 27)).below hb1
    have Z1 : Hid _ := (Six.third w (.cells #[.int .i64 n, .bool i, .int .i64 b, .int .i64 t, .int .i64 p, .int .i64 s] 27) (.cells #[.int .i64 n', .bool i', .int .i64 b', .int .i64 t', .int .i64 p', .int .i64 s'] 27) 0 false 0 0 0 0 27).below hb1
    have K1 : Hid (Below w.heap.size w w1) := ((((Below.refl _ w).alloc (Nat.le_refl _) _).alloc (by simp) _).alloc (by simp; omega) _).trans (hb1.mono (by simp; omega))
    clear hb1
    obtain ⟨_, c0, c1, c2, c3, c4, c5, _, _, _, _, _, _⟩ := A1.out
    go_wp2_with fail
    refine (S2.out _).mono ?_
    rintro e w9 ⟨rfl, hb9⟩
    have K9 : Hid (Below w.heap.size w w9) := K1.out.trans (hb9.mono K1.out.size)
    obtain ⟨_, y0, y1, y2, y3, y4, y5, g0, g1, g2, g3, g4, g5⟩ := Z1.out.below hb9
    clear hb9 A1 Z1 K1
    clear c0 c1 c2 c3 c4 c5
    go_wp2
    refine bodyPost_ret (v := .agg #[.int .i64 k, .bool false, .int .i64 0, .int .i64 0, .int .i64 0, .int .i64 0]) (by simp [results, Tryd.results9, go_sem, y0, y1, y2, y3, y4, y5]) rfl ⟨rfl, ?_⟩
    repeat' (first | (with_reducible exact K9.out) | (refine Below.setCell ?_ (by show w.heap.size ≤ _; dsimp only; omega) _))
  obtain ⟨rfl, rfl, hn, _, _⟩ := H rfl
  have hkn : n = k := (hk.out.trans hn).symm
  clear H hn hk
  subst hkn
  simp only [Bool.true_and]
  go_enter Tryd.func9, Tryd.ntmps9
  go_wp2_with fail
  refine (S1.out _).mono ?_
  rintro e w1 ⟨rfl, hb1⟩
  have A1 : Hid _ := (((Six.new w n true b t p 0 27).alloc (.cells #[.int .i64 n', .bool i', .int .i64 b', .int .i64 t', .int .i64 p', .int .i64 s'] 27)).alloc (.cells #[.int .i64 0, .bool false, .int .i64 0, .int .i64 0, .int .i64 0, .int .i64 0] 27)).below hb1
  have B1 : Hid _ := ((Six.second w (.cells #[.int .i64 n, .bool true, .int .i64 b, .int .i64 t, .int .i64 p, .int .i64 0] 27) n' i' b' t' p' s' 27).alloc (.cells #[.int .i64 0, .bool false, .int .i64 0, .int .i64 0, .int .i64 0, .int .i64 0] 27)).below hb1
  have Z1 : Hid _ := (Six.third w (.cells #[.int .i64 n, .bool true, .int .i64 b, .int .i64 t, .int .i64 p, .int .i64 0] 27) (.cells #[.int .i64 n', .bool i', .int .i64 b', .int .i64 t', .int .i64 p', .int .i64 s'] 27) 0 false 0 0 0 0 27).below hb1
  have K1 : Hid (Below w.heap.size w w1) := ((((Below.refl _ w).alloc (Nat.le_refl _) _).alloc (by simp) _).alloc (by simp; omega) _).trans (hb1.mono (by simp; omega))
  clear hb1
  obtain ⟨_, e0, e1, e2, e3, e4, e5, _, _, _, _, _, _⟩ := B1.out
  go_wp2_with fail
  refine (S3.out _).mono ?_
  rintro e w2 ⟨rfl, hb2⟩
  have A2 : Hid _ := A1.out.below hb2
  have B2 : Hid _ := B1.out.below hb2
  have Z2 : Hid _ := Z1.out.below hb2
  have K2 : Hid (Below w.heap.size w w2) := K1.out.trans (hb2.mono K1.out.size)
  clear hb2 A1 Z1 K1 B1
  clear S1 S3 e0 e1 e2 e3 e4 e5
  cases y
  case false =>
    obtain ⟨_, c0, c1, c2, c3, c4, c5, _, _, _, _, _, _⟩ := A2.out
    go_wp2_with fail
    refine (S2.out _).mono ?_
    rintro e w9 ⟨rfl, hb9⟩
    have K9 : Hid (Below w.heap.size w w9) := K2.out.trans (hb9.mono K2.out.size)
    obtain ⟨_, y0, y1, y2, y3, y4, y5, g0, g1, g2, g3, g4, g5⟩ := Z2.out.below hb9
    clear hb9 A2 Z2 K2
    clear c0 c1 c2 c3 c4 c5
    go_wp2
    refine bodyPost_ret (v := .agg #[.int .i64 n, .bool false, .int .i64 0, .int .i64 0, .int .i64 0, .int .i64 0]) (by simp [results, Tryd.results9, go_sem, y0, y1, y2, y3, y4, y5]) rfl ⟨rfl, ?_⟩
    repeat' (first | (with_reducible exact K9.out) | (refine Below.setCell ?_ (by show w.heap.size ≤ _; dsimp only; omega) _))
  case true =>
    obtain ⟨_, e0, e1, e2, e3, e4, e5, _, _, _, _, _, _⟩ := B2.out
    obtain ⟨_, c0, c1, c2, c3, c4, c5, f0, f1, f2, f3, f4, f5⟩ := A2.out
    obtain ⟨_, y0, y1, y2, y3, y4, y5, g0, g1, g2, g3, g4, g5⟩ := Z2.out
    go_wp2
    refine bodyPost_ret (v := .agg #[.int .i64 n, .bool true, .int .i64 b, .int .i64 t, .int .i64 p, .int .i64 n']) (by simp [results, Tryd.results9, go_sem, y0, y1, y2, y3, y4, y5]) rfl ⟨rfl, ?_⟩
    repeat' (first | (with_reducible exact K2.out) | (refine Below.setCell ?_ (by show w.heap.size ≤ _; dsimp only; omega) _))

end Go.Proofs.YtehmlneaahbdoaaDoor
