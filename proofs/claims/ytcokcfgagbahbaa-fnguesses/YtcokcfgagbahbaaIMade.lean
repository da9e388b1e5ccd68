/- weakened, narrowed, pointed, sealedBy and openedBy of the program, at all words: what they answer. narrowed: of a word whose number is in 0 .. 65535. -/
import Derived.Test.YtcokcfgagbahbaaSMade
namespace Go.Proofs.Ytcokcfgagbahbaa
open Go.ChangeShapes Go.WideShapes Go.ChangeAt Go.RowKit

theorem left64_math (n : Int) : (wrap64 (n.tmod 64 + 64)).tmod 64 = n % 64 := by
  have h1 : n.tmod 64 = if 0 ≤ n then n % 64 else -((-n) % 64) := by
    split
    · exact Int.tmod_eq_emod_of_nonneg (by omega)
    · have := Int.neg_tmod (a := -n) (b := 64)
      rw [Int.neg_neg] at this
      rw [this, Int.tmod_eq_emod_of_nonneg (by omega)]
  have h2 : wrap64 (n.tmod 64 + 64) = n.tmod 64 + 64 := by
    unfold wrap64
    split at h1 <;> omega
  rw [h2, Int.tmod_eq_emod_of_nonneg (by split at h1 <;> omega)]
  split at h1 <;> omega

set_option maxHeartbeats 400000 in
theorem leftBy64_any (n : Int) (w : World) :
    Calls Try.prog 33 #[.int .i64 n, .int .i64 64] w fun e w' => e = .returned (.int .i64 (n % 64)) ∧ w' = w := by
  go_enter Try.func33, Try.ntmps33
  go_wp2
  go_ret
  exact ⟨by show Ending.returned (Value.int IntKind.i64 ((wrap64 (n.tmod 64 + 64)).tmod 64)) = _; rw [left64_math], rfl⟩

/-- What a maker is given beside the word, in a block. -/
structure Seven (w : World) (r : Nat) (m n : Int) (i : Bool) (b t p s : Int) : Prop where
  lt : r < w.heap.size
  c0 : w.cell? ⟨r, 0, none⟩ = some (.int .i64 m)
  c1 : w.cell? ⟨r, 1, none⟩ = some (.int .i64 n)
  c2 : w.cell? ⟨r, 2, none⟩ = some (.bool i)
  c3 : w.cell? ⟨r, 3, none⟩ = some (.int .i64 b)
  c4 : w.cell? ⟨r, 4, none⟩ = some (.int .i64 t)
  c5 : w.cell? ⟨r, 5, none⟩ = some (.int .i64 p)
  c6 : w.cell? ⟨r, 6, none⟩ = some (.int .i64 s)
section
variable {w w' : World} {r q : Nat} {m n : Int} {i : Bool} {b t p s : Int}
theorem Seven.keep (h : Seven w r m n i b t p s) (k : KeepBut q w w') (hq : r ≠ q) : Seven w' r m n i b t p s :=
  ⟨Nat.lt_of_lt_of_le h.lt k.size, (k.cell (p := ⟨r, 0, none⟩) h.lt hq).trans h.c0, (k.cell (p := ⟨r, 1, none⟩) h.lt hq).trans h.c1, (k.cell (p := ⟨r, 2, none⟩) h.lt hq).trans h.c2, (k.cell (p := ⟨r, 3, none⟩) h.lt hq).trans h.c3, (k.cell (p := ⟨r, 4, none⟩) h.lt hq).trans h.c4, (k.cell (p := ⟨r, 5, none⟩) h.lt hq).trans h.c5, (k.cell (p := ⟨r, 6, none⟩) h.lt hq).trans h.c6⟩
theorem Seven.below (h : Seven w r m n i b t p s) (k : Below w.heap.size w w') : Seven w' r m n i b t p s := h.keep (q := w.heap.size) (KeepBut.ofBelow k) (Nat.ne_of_lt h.lt)
theorem Seven.alloc (h : Seven w r m n i b t p s) (o : Obj) : Seven (w.alloc o) r m n i b t p s := h.keep (q := w.heap.size) ((KeepBut.refl _ _).alloc o) (Nat.ne_of_lt h.lt)
theorem Seven.drew (h : Seven w r m n i b t p s) : Seven w.drew r m n i b t p s := h.below ((Below.refl _ _).drew)
theorem Seven.other (h : Seven w r m n i b t p s) {r' : Nat} (hr : r ≠ r') (o : Nat) (u : Value) : Seven (w.setCell ⟨r', o, none⟩ u) r m n i b t p s := h.keep (q := r') ((KeepBut.refl _ _).setCell o u) hr
end
theorem Seven.second (w : World) (o : Obj) (m n : Int) (i : Bool) (b t p s : Int) (T : TypeId) : Seven ((w.alloc o).alloc (.cells #[.int .i64 m, .int .i64 n, .bool i, .int .i64 b, .int .i64 t, .int .i64 p, .int .i64 s] T)) (w.heap.size + 1) m n i b t p s :=
  ⟨by simp, by simp, by simp, by simp, by simp, by simp, by simp, by simp⟩

/-- The blocks of a maker: the word, what is given beside it, the answer's; and that nothing that was there has turned. -/
structure Mkr (w0 : World) (n : Int) (i : Bool) (b t p s m n' : Int) (i' : Bool) (b' t' p' s' : Int) (w : World) : Prop where
  a : Six w w0.heap.size n i b t p s
  g : Seven w (w0.heap.size + 1) m n' i' b' t' p' s'
  z : Six w (w0.heap.size + 1 + 1) 0 false 0 0 0 0
  k : Below w0.heap.size w0 w
section
variable {w0 w w' : World} {n : Int} {i : Bool} {b t p s m n' : Int} {i' : Bool} {b' t' p' s' : Int}
theorem Mkr.next (h : Mkr w0 n i b t p s m n' i' b' t' p' s' w) (hb : Below w.heap.size w w') : Mkr w0 n i b t p s m n' i' b' t' p' s' w' :=
  ⟨h.a.below hb, h.g.below hb, h.z.below hb, h.k.trans (hb.mono h.k.size)⟩
theorem Mkr.drew (h : Mkr w0 n i b t p s m n' i' b' t' p' s' w) : Mkr w0 n i b t p s m n' i' b' t' p' s' w.drew := h.next (Below.refl _ _).drew
theorem Mkr.set0 (h : Mkr w0 n i b t p s m n' i' b' t' p' s' w) (x : Int) : Mkr w0 x i b t p s m n' i' b' t' p' s' (w.setCell ⟨w0.heap.size, 0, none⟩ (.int .i64 x)) :=
  ⟨h.a.set0 x, h.g.other (by omega) _ _, h.z.other (by omega) _ _, h.k.setCell (Nat.le_refl _) _⟩
theorem Mkr.set2 (h : Mkr w0 n i b t p s m n' i' b' t' p' s' w) (x : Int) : Mkr w0 n i x t p s m n' i' b' t' p' s' (w.setCell ⟨w0.heap.size, 2, none⟩ (.int .i64 x)) :=
  ⟨h.a.set2 x, h.g.other (by omega) _ _, h.z.other (by omega) _ _, h.k.setCell (Nat.le_refl _) _⟩
theorem Mkr.set3 (h : Mkr w0 n i b t p s m n' i' b' t' p' s' w) (x : Int) : Mkr w0 n i b x p s m n' i' b' t' p' s' (w.setCell ⟨w0.heap.size, 3, none⟩ (.int .i64 x)) :=
  ⟨h.a.set3 x, h.g.other (by omega) _ _, h.z.other (by omega) _ _, h.k.setCell (Nat.le_refl _) _⟩
theorem Mkr.set4 (h : Mkr w0 n i b t p s m n' i' b' t' p' s' w) (x : Int) : Mkr w0 n i b t x s m n' i' b' t' p' s' (w.setCell ⟨w0.heap.size, 4, none⟩ (.int .i64 x)) :=
  ⟨h.a.set4 x, h.g.other (by omega) _ _, h.z.other (by omega) _ _, h.k.setCell (Nat.le_refl _) _⟩
theorem Mkr.set5 (h : Mkr w0 n i b t p s m n' i' b' t' p' s' w) (x : Int) : Mkr w0 n i b t p x m n' i' b' t' p' s' (w.setCell ⟨w0.heap.size, 5, none⟩ (.int .i64 x)) :=
  ⟨h.a.set5 x, h.g.other (by omega) _ _, h.z.other (by omega) _ _, h.k.setCell (Nat.le_refl _) _⟩
end
theorem Mkr.new (w : World) (n : Int) (i : Bool) (b t p s m n' : Int) (i' : Bool) (b' t' p' s' : Int) : Mkr w n i b t p s m n' i' b' t' p' s' (((w.alloc (.cells #[.int .i64 n, .bool i, .int .i64 b, .int .i64 t, .int .i64 p, .int .i64 s] 28)).alloc (.cells #[.int .i64 m, .int .i64 n', .bool i', .int .i64 b', .int .i64 t', .int .i64 p', .int .i64 s'] 77)).alloc (.cells #[.int .i64 0, .bool false, .int .i64 0, .int .i64 0, .int .i64 0, .int .i64 0] 28)) :=
  ⟨((Six.new w n i b t p s _).alloc _).alloc _, (Seven.second w _ m n' i' b' t' p' s' _).alloc _, Six.third w _ _ 0 false 0 0 0 0 _,
    (((Below.refl _ w).alloc (Nat.le_refl _) _).alloc (by simp) _).alloc (by simp; omega) _⟩

/-- A word where c, and the zero word elsewhere. -/
abbrev orZ (c : Bool) (n : Int) (i : Bool) (b t p s : Int) : Value :=
  .agg #[.int .i64 (bif c then n else 0), .bool (bif c then i else false), .int .i64 (bif c then b else 0), .int .i64 (bif c then t else 0), .int .i64 (bif c then p else 0), .int .i64 (bif c then s else 0)]

set_option maxRecDepth 100000 in
set_option maxHeartbeats 4000000 in
theorem weakened_any (n : Int) (i : Bool) (b t p s m n' : Int) (i' : Bool) (b' t' p' s' : Int) (w : World) :
    Calls Try.prog 67 #[.agg #[.int .i64 n, .bool i, .int .i64 b, .int .i64 t, .int .i64 p, .int .i64 s], .agg #[.int .i64 m, .int .i64 n', .bool i', .int .i64 b', .int .i64 t', .int .i64 p', .int .i64 s']] w fun e w' => e = .returned (.tuple #[.agg #[.int .i64 n, .bool i, .int .i64 b, .int .i64 t, .int .i64 (bits .and .i64 p (m % 64)), .int .i64 s], .bool (!(s != 0))]) ∧ Below w.heap.size w w' := by
  obtain ⟨k, hk⟩ : ∃ k, Hid (k = m % 64) := ⟨_, rfl⟩
  have s1 := leftBy64_any m
  rw [← hk.out] at s1 ⊢
  obtain ⟨y, hy⟩ : ∃ y, Hid (y = (s != 0)) := ⟨_, rfl⟩
  have s2 := fun pp => sealed_any b t pp s
  rw [← hy.out] at s2 ⊢
  clear hk hy
  have S1 : Hid _ := s1
  have S2 : Hid _ := s2
  clear s1 s2
  go_enter Try.func67, Try.ntmps67
  go_upto_region 1 with fail
  have M0 : Hid _ := Mkr.new w n i b t p s m n' i' b' t' p' s'
  generalize ((w.alloc (.cells #[.int .i64 n, .bool i, .int .i64 b, .int .i64 t, .int .i64 p, .int .i64 s] 28)).alloc (.cells #[.int .i64 m, .int .i64 n', .bool i', .int .i64 b', .int .i64 t', .int .i64 p', .int .i64 s'] 77)).alloc (.cells #[.int .i64 0, .bool false, .int .i64 0, .int .i64 0, .int .i64 0, .int .i64 0] 28) = W0 at M0 ⊢
  obtain ⟨_, c0, c1, c2, c3, c4, c5, f0, f1, f2, f3, f4, f5⟩ := M0.out.a
  obtain ⟨_, d0, d1, d2, d3, d4, d5, d6⟩ := M0.out.g
  have M1 : Hid _ := M0.out.drew.set4 (bits .and .i64 p k)
  go_cut [] (fun wx => Hid (Mkr w n i b t (bits .and .i64 p k) s m n' i' b' t' p' s' wx))
  case first =>
    go_region_with (first | (go_at_call 33; refine (S1.out _).mono ?_; rintro e w2 ⟨rfl, rfl⟩))
    all_goals
      go_wp2_with fail
      go_meet
      case rel => exact M1.out
  case rest =>
    clear c0 c1 c2 c3 c4 c5 f0 f1 f2 f3 f4 f5 d0 d1 d2 d3 d4 d5 d6 M0 M1 S1
    have M2 : Hid _ := hcut.out
    clear hcut
    have M3 : Hid _ := M2.out.drew
    go_upto_region 2 with fail
    obtain ⟨_, c0, c1, c2, c3, c4, c5, _, _, _, _, _, _⟩ := M2.out.a
    obtain ⟨_, y0, y1, y2, y3, y4, y5, g0, g1, g2, g3, g4, g5⟩ := M2.out.z
    go_region_with (first | (go_at_call 87; refine (S2.out _ _).mono ?_; rintro e w4 ⟨rfl, hb4⟩; have M4 : Hid _ := M3.out.next hb4; clear hb4 c0 c1 c2 c3 c4 c5 y0 y1 y2 y3 y4 y5 g0 g1 g2 g3 g4 g5; obtain ⟨_, c0, c1, c2, c3, c4, c5, _, _, _, _, _, _⟩ := M4.out.a; obtain ⟨_, y0, y1, y2, y3, y4, y5, g0, g1, g2, g3, g4, g5⟩ := M4.out.z))
    all_goals
      go_wp2
      refine bodyPost_ret (v := .tuple #[.agg #[.int .i64 n, .bool i, .int .i64 b, .int .i64 t, .int .i64 (bits .and .i64 p k), .int .i64 s], .bool (!y)]) (by simp [results, Try.results67, go_sem, y0, y1, y2, y3, y4, y5]) rfl ⟨rfl, ?_⟩
      repeat' (first | (with_reducible exact M4.out.k) | (with_reducible apply Below.drew) | (with_reducible apply below_drewN) | (refine Below.setCell ?_ (by show w.heap.size ≤ _; dsimp only; omega) _))

set_option maxRecDepth 100000 in
set_option maxHeartbeats 4000000 in
theorem pointed_any (n : Int) (i : Bool) (b t p s m n' : Int) (i' : Bool) (b' t' p' s' : Int) (w : World) :
    Calls Try.prog 69 #[.agg #[.int .i64 n, .bool i, .int .i64 b, .int .i64 t, .int .i64 p, .int .i64 s], .agg #[.int .i64 m, .int .i64 n', .bool i', .int .i64 b', .int .i64 t', .int .i64 p', .int .i64 s']] w fun e w' => e = .returned (.tuple #[.agg #[.int .i64 (m % 65536), .bool i, .int .i64 b, .int .i64 t, .int .i64 p, .int .i64 s], .bool (!(s != 0))]) ∧ Below w.heap.size w w' := by
  obtain ⟨k, hk⟩ : ∃ k, Hid (k = m % 65536) := ⟨_, rfl⟩
  have s1 := leftBy_any m
  rw [← hk.out] at s1 ⊢
  obtain ⟨y, hy⟩ : ∃ y, Hid (y = (s != 0)) := ⟨_, rfl⟩
  have s2 := sealed_any b t p s
  rw [← hy.out] at s2 ⊢
  clear hk hy
  have S1 : Hid _ := s1
  have S2 : Hid _ := s2
  clear s1 s2
  go_enter Try.func69, Try.ntmps69
  go_upto_region 1 with fail
  have M0 : Hid _ := Mkr.new w n i b t p s m n' i' b' t' p' s'
  generalize ((w.alloc (.cells #[.int .i64 n, .bool i, .int .i64 b, .int .i64 t, .int .i64 p, .int .i64 s] 28)).alloc (.cells #[.int .i64 m, .int .i64 n', .bool i', .int .i64 b', .int .i64 t', .int .i64 p', .int .i64 s'] 77)).alloc (.cells #[.int .i64 0, .bool false, .int .i64 0, .int .i64 0, .int .i64 0, .int .i64 0] 28) = W0 at M0 ⊢
  obtain ⟨_, c0, c1, c2, c3, c4, c5, f0, f1, f2, f3, f4, f5⟩ := M0.out.a
  obtain ⟨_, d0, d1, d2, d3, d4, d5, d6⟩ := M0.out.g
  have M1 : Hid _ := M0.out.set0 k
  go_wp2_with fail
  refine (S1.out _).mono ?_
  rintro e w2 ⟨rfl, rfl⟩
  go_upto_region 2 with fail
  clear c0 c1 c2 c3 c4 c5 f0 f1 f2 f3 f4 f5 d0 d1 d2 d3 d4 d5 d6 M0 S1
  generalize w2.setCell ⟨w.heap.size, 0, none⟩ (.int .i64 k) = W1 at M1 ⊢
  have M2 : Hid _ := M1.out.drew
  obtain ⟨_, c0, c1, c2, c3, c4, c5, _, _, _, _, _, _⟩ := M1.out.a
  obtain ⟨_, y0, y1, y2, y3, y4, y5, g0, g1, g2, g3, g4, g5⟩ := M1.out.z
  go_region_with (first | (go_at_call 87; refine (S2.out _).mono ?_; rintro e w4 ⟨rfl, hb4⟩; have M4 : Hid _ := M2.out.next hb4; clear hb4 c0 c1 c2 c3 c4 c5 y0 y1 y2 y3 y4 y5 g0 g1 g2 g3 g4 g5; obtain ⟨_, c0, c1, c2, c3, c4, c5, _, _, _, _, _, _⟩ := M4.out.a; obtain ⟨_, y0, y1, y2, y3, y4, y5, g0, g1, g2, g3, g4, g5⟩ := M4.out.z))
  all_goals
    go_wp2
    refine bodyPost_ret (v := .tuple #[.agg #[.int .i64 k, .bool i, .int .i64 b, .int .i64 t, .int .i64 p, .int .i64 s], .bool (!y)]) (by simp [results, Try.results69, go_sem, y0, y1, y2, y3, y4, y5]) rfl ⟨rfl, ?_⟩
    repeat' (first | (with_reducible exact M4.out.k) | (with_reducible apply Below.drew) | (with_reducible apply below_drewN) | (refine Below.setCell ?_ (by show w.heap.size ≤ _; dsimp only; omega) _))

set_option maxRecDepth 100000 in
set_option maxHeartbeats 4000000 in
theorem sealedBy_any (n : Int) (i : Bool) (b t p s m n' : Int) (i' : Bool) (b' t' p' s' : Int) (w : World) :
    Calls Try.prog 70 #[.agg #[.int .i64 n, .bool i, .int .i64 b, .int .i64 t, .int .i64 p, .int .i64 s], .agg #[.int .i64 m, .int .i64 n', .bool i', .int .i64 b', .int .i64 t', .int .i64 p', .int .i64 s']] w fun e w' => e = .returned (.tuple #[orZ (!(s != 0) && mayB n' i' b' t' p' s') n i b t p n', .bool (!(s != 0) && mayB n' i' b' t' p' s')]) ∧ Below w.heap.size w w' := by
  have s1 := sealed_any b t p s
  have s2 := maySeal_any n' i' b' t' p' s'
  generalize mayB n' i' b' t' p' s' = x at s2 ⊢
  obtain ⟨y, hy⟩ : ∃ y, Hid (y = (s != 0)) := ⟨_, rfl⟩
  rw [← hy.out] at s1 ⊢
  clear hy
  have S1 : Hid _ := s1
  have S2 : Hid _ := s2
  clear s1 s2
  go_enter Try.func70, Try.ntmps70
  go_upto_region 1 with fail
  have M0 : Hid _ := Mkr.new w n i b t p s m n' i' b' t' p' s'
  generalize ((w.alloc (.cells #[.int .i64 n, .bool i, .int .i64 b, .int .i64 t, .int .i64 p, .int .i64 s] 28)).alloc (.cells #[.int .i64 m, .int .i64 n', .bool i', .int .i64 b', .int .i64 t', .int .i64 p', .int .i64 s'] 77)).alloc (.cells #[.int .i64 0, .bool false, .int .i64 0, .int .i64 0, .int .i64 0, .int .i64 0] 28) = W0 at M0 ⊢
  obtain ⟨_, c0, c1, c2, c3, c4, c5, _, _, _, _, _, _⟩ := M0.out.a
  go_wp2_with fail
  refine (S1.out _).mono ?_
  rintro e w1 ⟨rfl, hb1⟩
  have M1 : Hid _ := M0.out.next hb1
  clear hb1 M0 S1 c0 c1 c2 c3 c4 c5
  cases y
  case true =>
    obtain ⟨_, y0, y1, y2, y3, y4, y5, g0, g1, g2, g3, g4, g5⟩ := M1.out.z
    go_wp2
    refine bodyPost_ret (v := .tuple #[.agg #[.int .i64 0, .bool false, .int .i64 0, .int .i64 0, .int .i64 0, .int .i64 0], .bool false]) (by simp [results, Try.results70, go_sem, y0, y1, y2, y3, y4, y5]) rfl ⟨rfl, ?_⟩
    repeat' (first | (with_reducible exact M1.out.k) | (with_reducible apply Below.drew) | (with_reducible apply below_drewN) | (refine Below.setCell ?_ (by show w.heap.size ≤ _; dsimp only; omega) _))
  obtain ⟨_, d0, d1, d2, d3, d4, d5, d6⟩ := M1.out.g
  go_wp2_with fail
  refine (S2.out _).mono ?_
  rintro e w2 ⟨rfl, hb2⟩
  have M2 : Hid _ := M1.out.next hb2
  clear hb2 M1 S2 d0 d1 d2 d3 d4 d5 d6
  cases x
  case false =>
    obtain ⟨_, y0, y1, y2, y3, y4, y5, g0, g1, g2, g3, g4, g5⟩ := M2.out.z
    go_wp2
    refine bodyPost_ret (v := .tuple #[.agg #[.int .i64 0, .bool false, .int .i64 0, .int .i64 0, .int .i64 0, .int .i64 0], .bool false]) (by simp [results, Try.results70, go_sem, y0, y1, y2, y3, y4, y5]) rfl ⟨rfl, ?_⟩
    repeat' (first | (with_reducible exact M2.out.k) | (with_reducible apply Below.drew) | (with_reducible apply below_drewN) | (refine Below.setCell ?_ (by show w.heap.size ≤ _; dsimp only; omega) _))
  obtain ⟨_, c0, c1, c2, c3, c4, c5, f0, f1, f2, f3, f4, f5⟩ := M2.out.a
  obtain ⟨_, d0, d1, d2, d3, d4, d5, d6⟩ := M2.out.g
  obtain ⟨_, y0, y1, y2, y3, y4, y5, g0, g1, g2, g3, g4, g5⟩ := M2.out.z
  go_wp2
  refine bodyPost_ret (v := .tuple #[.agg #[.int .i64 n, .bool i, .int .i64 b, .int .i64 t, .int .i64 p, .int .i64 n'], .bool true]) (by simp [results, Try.results70, go_sem, y0, y1, y2, y3, y4, y5]) rfl ⟨rfl, ?_⟩
  repeat' (first | (with_reducible exact M2.out.k) | (with_reducible apply Below.drew) | (with_reducible apply below_drewN) | (refine Below.setCell ?_ (by show w.heap.size ≤ _; dsimp only; omega) _))

set_option maxRecDepth 100000 in
set_option maxHeartbeats 4000000 in
theorem openedBy_any (n : Int) (i : Bool) (b t p s m n' : Int) (i' : Bool) (b' t' p' s' : Int) (w : World) :
    Calls Try.prog 71 #[.agg #[.int .i64 n, .bool i, .int .i64 b, .int .i64 t, .int .i64 p, .int .i64 s], .agg #[.int .i64 m, .int .i64 n', .bool i', .int .i64 b', .int .i64 t', .int .i64 p', .int .i64 s']] w fun e w' => e = .returned (.tuple #[orZ (mayB n' i' b' t' p' s' && (s == n')) n i b t p 0, .bool (mayB n' i' b' t' p' s' && (s == n'))]) ∧ Below w.heap.size w w' := by
  have s2 := maySeal_any n' i' b' t' p' s'
  have hss : (s == n') = !(s != n') := by cases h : s == n' <;> simp [bne, h]
  rw [hss]
  clear hss
  generalize mayB n' i' b' t' p' s' = x at s2 ⊢
  have S2 : Hid _ := s2
  clear s2
  go_enter Try.func71, Try.ntmps71
  go_upto_region 1 with fail
  have M0 : Hid _ := Mkr.new w n i b t p s m n' i' b' t' p' s'
  generalize ((w.alloc (.cells #[.int .i64 n, .bool i, .int .i64 b, .int .i64 t, .int .i64 p, .int .i64 s] 28)).alloc (.cells #[.int .i64 m, .int .i64 n', .bool i', .int .i64 b', .int .i64 t', .int .i64 p', .int .i64 s'] 77)).alloc (.cells #[.int .i64 0, .bool false, .int .i64 0, .int .i64 0, .int .i64 0, .int .i64 0] 28) = W0 at M0 ⊢
  obtain ⟨_, d0, d1, d2, d3, d4, d5, d6⟩ := M0.out.g
  go_wp2_with fail
  refine (S2.out _).mono ?_
  rintro e w2 ⟨rfl, hb2⟩
  have M2 : Hid _ := M0.out.next hb2
  clear hb2 M0 S2 d0 d1 d2 d3 d4 d5 d6
  cases x
  case false =>
    obtain ⟨_, y0, y1, y2, y3, y4, y5, g0, g1, g2, g3, g4, g5⟩ := M2.out.z
    go_wp2
    refine bodyPost_ret (v := .tuple #[.agg #[.int .i64 0, .bool false, .int .i64 0, .int .i64 0, .int .i64 0, .int .i64 0], .bool false]) (by simp [results, Try.results71, go_sem, y0, y1, y2, y3, y4, y5]) rfl ⟨rfl, ?_⟩
    repeat' (first | (with_reducible exact M2.out.k) | (with_reducible apply Below.drew) | (with_reducible apply below_drewN) | (refine Below.setCell ?_ (by show w.heap.size ≤ _; dsimp only; omega) _))
  obtain ⟨_, c0, c1, c2, c3, c4, c5, f0, f1, f2, f3, f4, f5⟩ := M2.out.a
  obtain ⟨_, d0, d1, d2, d3, d4, d5, d6⟩ := M2.out.g
  cases e0 : (s != n')
  case true =>
    obtain ⟨_, y0, y1, y2, y3, y4, y5, g0, g1, g2, g3, g4, g5⟩ := M2.out.z
    go_wp2
    refine bodyPost_ret (v := .tuple #[.agg #[.int .i64 0, .bool false, .int .i64 0, .int .i64 0, .int .i64 0, .int .i64 0], .bool false]) (by simp [results, Try.results71, go_sem, y0, y1, y2, y3, y4, y5]) rfl ⟨(by rw [e0]; rfl), ?_⟩
    repeat' (first | (with_reducible exact M2.out.k) | (with_reducible apply Below.drew) | (with_reducible apply below_drewN) | (refine Below.setCell ?_ (by show w.heap.size ≤ _; dsimp only; omega) _))
  obtain ⟨_, y0, y1, y2, y3, y4, y5, g0, g1, g2, g3, g4, g5⟩ := M2.out.z
  go_wp2
  refine bodyPost_ret (v := .tuple #[.agg #[.int .i64 n, .bool i, .int .i64 b, .int .i64 t, .int .i64 p, .int .i64 0], .bool true]) (by simp [results, Try.results71, go_sem, y0, y1, y2, y3, y4, y5]) rfl ⟨(by rw [e0]; rfl), ?_⟩
  repeat' (first | (with_reducible exact M2.out.k) | (with_reducible apply Below.drew) | (with_reducible apply below_drewN) | (refine Below.setCell ?_ (by show w.heap.size ≤ _; dsimp only; omega) _))

set_option maxRecDepth 100000 in
set_option maxHeartbeats 4000000 in
theorem narrowed_any (n : Int) (i : Bool) (b t p s m n' : Int) (i' : Bool) (b' t' p' s' : Int) (n0 : 0 ≤ n) (n1 : n ≤ 65535) (w : World) :
    Calls Try.prog 68 #[.agg #[.int .i64 n, .bool i, .int .i64 b, .int .i64 t, .int .i64 p, .int .i64 s], .agg #[.int .i64 m, .int .i64 n', .bool i', .int .i64 b', .int .i64 t', .int .i64 p', .int .i64 s']] w fun e w' => e = .returned (.tuple #[orZ (!(s != 0) && (decide (0 ≤ m ∧ m ≤ 4096) && (bokB n (n + m) && decide (b ≤ (wd n (n + m)).1 ∧ (wd n (n + m)).2 ≤ t)))) n i (wd n (n + m)).1 (wd n (n + m)).2 p s, .bool (!(s != 0) && (decide (0 ≤ m ∧ m ≤ 4096) && (bokB n (n + m) && decide (b ≤ (wd n (n + m)).1 ∧ (wd n (n + m)).2 ≤ t))))]) ∧ Below w.heap.size w w' := by
  have s1 := sealed_any b t p s
  have s4 := implBounds_any n (n + m)
  have s5 := implWide_any n (n + m)
  obtain ⟨lo, hi, hwd⟩ : ∃ lo hi, wd n (n + m) = (lo, hi) := ⟨_, _, rfl⟩
  rw [hwd] at s5 ⊢
  simp only at s5 ⊢
  clear hwd
  have s6 := holds_any b t p s lo hi
  generalize decide (b ≤ lo ∧ hi ≤ t) = v at s6 ⊢
  generalize bokB n (n + m) = z at s4 ⊢
  obtain ⟨y, hy⟩ : ∃ y, Hid (y = (s != 0)) := ⟨_, rfl⟩
  rw [← hy.out] at s1 ⊢
  clear hy
  have hadd : (0 ≤ m ∧ m ≤ 4096) → wrap64 (n + m) = n + m := by intro h; unfold wrap64; omega
  have hmm : decide (0 ≤ m ∧ m ≤ 4096) = (!decide (m < 0) && !decide (4096 < m)) := by
    by_cases e1 : m < 0 <;> by_cases e2 : 4096 < m <;> simp [e1, e2] <;> omega
  have HA : Hid _ := hadd
  rw [hmm]
  have S1 : Hid _ := s1
  have S4 : Hid _ := s4
  have S5 : Hid _ := s5
  have S6 : Hid _ := s6
  clear s1 s4 s5 s6 hadd hmm n0 n1
  go_enter Try.func68, Try.ntmps68
  go_upto_region 1 with fail
  have M0 : Hid _ := Mkr.new w n i b t p s m n' i' b' t' p' s'
  generalize ((w.alloc (.cells #[.int .i64 n, .bool i, .int .i64 b, .int .i64 t, .int .i64 p, .int .i64 s] 28)).alloc (.cells #[.int .i64 m, .int .i64 n', .bool i', .int .i64 b', .int .i64 t', .int .i64 p', .int .i64 s'] 77)).alloc (.cells #[.int .i64 0, .bool false, .int .i64 0, .int .i64 0, .int .i64 0, .int .i64 0] 28) = W0 at M0 ⊢
  obtain ⟨_, c0, c1, c2, c3, c4, c5, _, _, _, _, _, _⟩ := M0.out.a
  go_wp2_with fail
  refine (S1.out _).mono ?_
  rintro e w1 ⟨rfl, hb1⟩
  have M1 : Hid _ := M0.out.next hb1
  clear hb1 M0 S1 c0 c1 c2 c3 c4 c5
  cases y
  case true =>
    obtain ⟨_, y0, y1, y2, y3, y4, y5, g0, g1, g2, g3, g4, g5⟩ := M1.out.z
    go_wp2
    refine bodyPost_ret (v := .tuple #[.agg #[.int .i64 0, .bool false, .int .i64 0, .int .i64 0, .int .i64 0, .int .i64 0], .bool false]) (by simp [results, Try.results68, go_sem, y0, y1, y2, y3, y4, y5]) rfl ⟨rfl, ?_⟩
    repeat' (first | (with_reducible exact M1.out.k) | (with_reducible apply Below.drew) | (with_reducible apply below_drewN) | (refine Below.setCell ?_ (by show w.heap.size ≤ _; dsimp only; omega) _))
  obtain ⟨_, c0, c1, c2, c3, c4, c5, _, _, _, _, _, _⟩ := M1.out.a
  obtain ⟨_, d0, d1, d2, d3, d4, d5, d6⟩ := M1.out.g
  cases e0 : decide (m < 0)
  case true =>
    obtain ⟨_, y0, y1, y2, y3, y4, y5, g0, g1, g2, g3, g4, g5⟩ := M1.out.z
    go_wp2
    refine bodyPost_ret (v := .tuple #[.agg #[.int .i64 0, .bool false, .int .i64 0, .int .i64 0, .int .i64 0, .int .i64 0], .bool false]) (by simp [results, Try.results68, go_sem, y0, y1, y2, y3, y4, y5]) rfl ⟨(by rw [e0]; rfl), ?_⟩
    repeat' (first | (with_reducible exact M1.out.k) | (with_reducible apply Below.drew) | (with_reducible apply below_drewN) | (refine Below.setCell ?_ (by show w.heap.size ≤ _; dsimp only; omega) _))
  cases e1 : decide (4096 < m)
  case true =>
    obtain ⟨_, y0, y1, y2, y3, y4, y5, g0, g1, g2, g3, g4, g5⟩ := M1.out.z
    go_wp2
    refine bodyPost_ret (v := .tuple #[.agg #[.int .i64 0, .bool false, .int .i64 0, .int .i64 0, .int .i64 0, .int .i64 0], .bool false]) (by simp [results, Try.results68, go_sem, y0, y1, y2, y3, y4, y5]) rfl ⟨(by rw [e0, e1]; rfl), ?_⟩
    repeat' (first | (with_reducible exact M1.out.k) | (with_reducible apply Below.drew) | (with_reducible apply below_drewN) | (refine Below.setCell ?_ (by show w.heap.size ≤ _; dsimp only; omega) _))
  have hadd : wrap64 (n + m) = n + m := HA.out (by simp at e0 e1; omega)
  clear HA
  go_wp2_with fail
  refine (S4.out _).mono ?_
  rintro e w2 ⟨rfl, rfl⟩
  cases z
  case false =>
    obtain ⟨_, y0, y1, y2, y3, y4, y5, g0, g1, g2, g3, g4, g5⟩ := M1.out.z
    go_wp2
    refine bodyPost_ret (v := .tuple #[.agg #[.int .i64 0, .bool false, .int .i64 0, .int .i64 0, .int .i64 0, .int .i64 0], .bool false]) (by simp [results, Try.results68, go_sem, y0, y1, y2, y3, y4, y5]) rfl ⟨(by rw [e0, e1]; rfl), ?_⟩
    repeat' (first | (with_reducible exact M1.out.k) | (with_reducible apply Below.drew) | (with_reducible apply below_drewN) | (refine Below.setCell ?_ (by show w.heap.size ≤ _; dsimp only; omega) _))
  go_wp2_with fail
  refine (S5.out _).mono ?_
  rintro e w2 ⟨rfl, hb2⟩
  have M2 : Hid _ := M1.out.next hb2
  clear hb2 M1 S4 S5 c0 c1 c2 c3 c4 c5 d0 d1 d2 d3 d4 d5 d6
  obtain ⟨_, c0, c1, c2, c3, c4, c5, _, _, _, _, _, _⟩ := M2.out.a
  go_wp2_with fail
  refine (S6.out _).mono ?_
  rintro e w3 ⟨rfl, hb3⟩
  have M3 : Hid _ := M2.out.next hb3
  clear hb3 M2 S6 c0 c1 c2 c3 c4 c5
  cases v
  case false =>
    obtain ⟨_, y0, y1, y2, y3, y4, y5, g0, g1, g2, g3, g4, g5⟩ := M3.out.z
    go_wp2
    refine bodyPost_ret (v := .tuple #[.agg #[.int .i64 0, .bool false, .int .i64 0, .int .i64 0, .int .i64 0, .int .i64 0], .bool false]) (by simp [results, Try.results68, go_sem, y0, y1, y2, y3, y4, y5]) rfl ⟨(by rw [e0, e1]; rfl), ?_⟩
    repeat' (first | (with_reducible exact M3.out.k) | (with_reducible apply Below.drew) | (with_reducible apply below_drewN) | (refine Below.setCell ?_ (by show w.heap.size ≤ _; dsimp only; omega) _))
  obtain ⟨_, c0, c1, c2, c3, c4, c5, f0, f1, f2, f3, f4, f5⟩ := M3.out.a
  obtain ⟨_, y0, y1, y2, y3, y4, y5, g0, g1, g2, g3, g4, g5⟩ := M3.out.z
  go_wp2
  refine bodyPost_ret (v := .tuple #[.agg #[.int .i64 n, .bool i, .int .i64 lo, .int .i64 hi, .int .i64 p, .int .i64 s], .bool true]) (by simp [results, Try.results68, go_sem, y0, y1, y2, y3, y4, y5]) rfl ⟨(by rw [e0, e1]; rfl), ?_⟩
  repeat' (first | (with_reducible exact M3.out.k) | (with_reducible apply Below.drew) | (with_reducible apply below_drewN) | (refine Below.setCell ?_ (by show w.heap.size ≤ _; dsimp only; omega) _))
end Go.Proofs.Ytcokcfgagbahbaa
