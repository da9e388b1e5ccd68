/- Weaken, Narrow, Point, SealBy and OpenBy of the program, at all words: what they answer. No condition. -/
import Derived.Test.YtpkhnajhamnggaaGreatDoorZG
namespace Go.Proofs.YtpkhnajhamnggaaGreatDoor
open Go.ChangeShapes Go.WideShapes Go.ChangeAt Go.RowKit

/-- A word's block, the answer's behind it; nothing that was there has turned. -/
structure Fv (w0 : World) (n : Int) (i : Bool) (b t p s : Int) (w : World) : Prop where
  a : Six w w0.heap.size n i b t p s
  z : Six w (w0.heap.size + 1) 0 false 0 0 0 0
  k : Below w0.heap.size w0 w
/-- Two words' blocks, the answer's behind them; nothing that was there has turned. -/
structure Fw (w0 : World) (n : Int) (i : Bool) (b t p s n' : Int) (i' : Bool) (b' t' p' s' : Int) (w : World) : Prop where
  a : Six w w0.heap.size n i b t p s
  y : Six w (w0.heap.size + 1) n' i' b' t' p' s'
  z : Six w (w0.heap.size + 1 + 1) 0 false 0 0 0 0
  k : Below w0.heap.size w0 w
section
variable {w0 w w' : World} {n : Int} {i : Bool} {b t p s n' : Int} {i' : Bool} {b' t' p' s' : Int}
theorem Fv.next (h : Fv w0 n i b t p s w) (hb : Below w.heap.size w w') : Fv w0 n i b t p s w' := ⟨h.a.below hb, h.z.below hb, h.k.trans (hb.mono h.k.size)⟩
theorem Fv.drew (h : Fv w0 n i b t p s w) : Fv w0 n i b t p s w.drew := h.next (Below.refl _ _).drew
theorem Fw.next (h : Fw w0 n i b t p s n' i' b' t' p' s' w) (hb : Below w.heap.size w w') : Fw w0 n i b t p s n' i' b' t' p' s' w' := ⟨h.a.below hb, h.y.below hb, h.z.below hb, h.k.trans (hb.mono h.k.size)⟩
theorem Fw.drew (h : Fw w0 n i b t p s n' i' b' t' p' s' w) : Fw w0 n i b t p s n' i' b' t' p' s' w.drew := h.next (Below.refl _ _).drew
end
theorem Fv.new (w : World) (n : Int) (i : Bool) (b t p s : Int) : Fv w n i b t p s ((w.alloc (.cells #[.int .i64 n, .bool i, .int .i64 b, .int .i64 t, .int .i64 p, .int .i64 s] 38)).alloc (.cells #[.int .i64 0, .bool false, .int .i64 0, .int .i64 0, .int .i64 0, .int .i64 0] 38)) :=
  ⟨(Six.new w n i b t p s _).alloc _, Six.second w _ 0 false 0 0 0 0 _, ((Below.refl _ w).alloc (Nat.le_refl _) _).alloc (by simp) _⟩
theorem Fw.new (w : World) (n : Int) (i : Bool) (b t p s n' : Int) (i' : Bool) (b' t' p' s' : Int) : Fw w n i b t p s n' i' b' t' p' s' (((w.alloc (.cells #[.int .i64 n, .bool i, .int .i64 b, .int .i64 t, .int .i64 p, .int .i64 s] 38)).alloc (.cells #[.int .i64 n', .bool i', .int .i64 b', .int .i64 t', .int .i64 p', .int .i64 s'] 38)).alloc (.cells #[.int .i64 0, .bool false, .int .i64 0, .int .i64 0, .int .i64 0, .int .i64 0] 38)) :=
  ⟨((Six.new w n i b t p s _).alloc _).alloc _, (Six.second w _ n' i' b' t' p' s' _).alloc _, Six.third w _ _ 0 false 0 0 0 0 _, (((Below.refl _ w).alloc (Nat.le_refl _) _).alloc (by simp) _).alloc (by simp; omega) _⟩

theorem made_eq (c : Bool) (k v0 : Int) (v1 : Bool) (v2 v3 v4 v5 b t p s : Int) (h : c = true → v0 = k ∧ v1 = true ∧ v2 = b ∧ v3 = t ∧ v4 = p ∧ v5 = s) :
    Value.agg #[.int .i64 (bif c then v0 else k), .bool (bif c then v1 else false), .int .i64 (bif c then v2 else 0), .int .i64 (bif c then v3 else 0), .int .i64 (bif c then v4 else 0), .int .i64 (bif c then v5 else 0)] = madeV k c b t p s := by
  cases c
  · rfl
  · obtain ⟨rfl, rfl, rfl, rfl, rfl, rfl⟩ := h rfl
    rfl
theorem nz (s : Int) : (!(s != 0)) = (s == 0) := by cases h : s == 0 <;> simp [bne, h]

set_option maxRecDepth 100000 in
set_option maxHeartbeats 4000000 in
theorem implWeaken_any (n : Int) (i : Bool) (b t p s : Int) (m : Int) (w : World) :
    Calls Tryz.prog 181 #[.agg #[.int .i64 n, .bool i, .int .i64 b, .int .i64 t, .int .i64 p, .int .i64 s], .int .i64 m] w fun e w' => e = .returned (madeV (n % 65536) (openB n i b t p s) b t (bits .and .i64 p (m % 64)) s) ∧ Below w.heap.size w w' := by
  have s1 := implBare_any n i b t p s
  have s2 := fun w => madeOr_any (n % 65536) false 0 0 0 0 n i b t p s m 0 false 0 0 0 0 sWeaken 188 0 n i b t (bits .and .i64 p (m % 64)) s (!(s != 0)) w (fun args w => by first | rfl | (simp [callFunc, go_sem]; done)) (by kernel_rfl) (fun _ w => weakened_any n i b t p s m 0 false 0 0 0 0 w)
  have hc : (rkB n i b t p s && (!(s != 0))) = (openB n i b t p s) := by unfold openB; rw [nz]
  have he := made_eq (rkB n i b t p s && (!(s != 0))) (n % 65536) n i b t (bits .and .i64 p (m % 64)) s b t (bits .and .i64 p (m % 64)) s (by
    intro h
    rw [Bool.and_eq_true] at h
    obtain ⟨h1, h2⟩ := h
    obtain ⟨rfl, hn, _, _, _⟩ := rk_of h1
    exact ⟨hn.symm, rfl, rfl, rfl, rfl, rfl⟩)
  rw [he, hc] at s2
  clear he hc
  obtain ⟨u0, u1, u2, u3, u4, u5, hV⟩ : ∃ (u0 : Int) (u1 : Bool) (u2 u3 u4 u5 : Int), madeV (n % 65536) (openB n i b t p s) b t (bits .and .i64 p (m % 64)) s = .agg #[.int .i64 u0, .bool u1, .int .i64 u2, .int .i64 u3, .int .i64 u4, .int .i64 u5] := ⟨_, _, _, _, _, _, rfl⟩
  rw [hV] at s2 ⊢
  clear hV
  obtain ⟨o, ho⟩ : ∃ o, Hid (o = n % 65536) := ⟨_, rfl⟩
  rw [← ho.out] at s1 s2
  clear ho
  have S1 : Hid _ := s1
  have S2 : Hid _ := s2
  clear s1 s2
  go_enter Tryz.func181, Tryz.ntmps181
  go_upto_region 1 with fail
  have M0 : Hid _ := Fv.new w n i b t p s
  generalize ((w.alloc (.cells #[.int .i64 n, .bool i, .int .i64 b, .int .i64 t, .int .i64 p, .int .i64 s] 38)).alloc (.cells #[.int .i64 0, .bool false, .int .i64 0, .int .i64 0, .int .i64 0, .int .i64 0] 38)) = W0 at M0 ⊢
  have M1 : Hid _ := M0.out.drew
  obtain ⟨_, c0, c1, c2, c3, c4, c5, _, _, _, _, _, _⟩ := M0.out.a
  go_region_with (first | (go_at_call 168; refine (S1.out _).mono ?_; rintro e w2 ⟨rfl, hb2⟩; have M2 : Hid _ := M1.out.next hb2; clear hb2; obtain ⟨_, c0, c1, c2, c3, c4, c5, _, _, _, _, _, _⟩ := M2.out.a) | (go_at_call 141; refine (S2.out _).mono ?_; rintro e w3 ⟨rfl, hb3⟩; have M3 : Hid _ := M2.out.next hb3; clear hb3; obtain ⟨_, y0, y1, y2, y3, y4, y5, g0, g1, g2, g3, g4, g5⟩ := M3.out.z))
  all_goals
    go_wp2
    refine bodyPost_ret (v := .agg #[.int .i64 u0, .bool u1, .int .i64 u2, .int .i64 u3, .int .i64 u4, .int .i64 u5]) (by simp [results, Tryz.results181, go_sem, y0, y1, y2, y3, y4, y5]) rfl ⟨rfl, ?_⟩
    repeat' (first | (with_reducible exact M3.out.k) | (with_reducible apply Below.drew) | (with_reducible apply below_drewN) | (refine Below.setCell ?_ (by show w.heap.size ≤ _; dsimp only; omega) _))
set_option maxRecDepth 100000 in
set_option maxHeartbeats 4000000 in
theorem implNarrow_any (n : Int) (i : Bool) (b t p s : Int) (m : Int) (w : World) :
    Calls Tryz.prog 182 #[.agg #[.int .i64 n, .bool i, .int .i64 b, .int .i64 t, .int .i64 p, .int .i64 s], .int .i64 m] w fun e w' => e = .returned (madeV (n % 65536) (narB n i b t p s m) (wd n (n + m)).1 (wd n (n + m)).2 p s) ∧ Below w.heap.size w w' := by
  have s1 := implBare_any n i b t p s
  have s2 := fun w => madeOr_any (n % 65536) false 0 0 0 0 n i b t p s m 0 false 0 0 0 0 sNarrow 189 1 (bif (!(s != 0) && (decide (0 ≤ m ∧ m ≤ 4096) && (bokB n (n + m) && decide (b ≤ (wd n (n + m)).1 ∧ (wd n (n + m)).2 ≤ t)))) then n else 0) (bif (!(s != 0) && (decide (0 ≤ m ∧ m ≤ 4096) && (bokB n (n + m) && decide (b ≤ (wd n (n + m)).1 ∧ (wd n (n + m)).2 ≤ t)))) then i else false) (bif (!(s != 0) && (decide (0 ≤ m ∧ m ≤ 4096) && (bokB n (n + m) && decide (b ≤ (wd n (n + m)).1 ∧ (wd n (n + m)).2 ≤ t)))) then (wd n (n + m)).1 else 0) (bif (!(s != 0) && (decide (0 ≤ m ∧ m ≤ 4096) && (bokB n (n + m) && decide (b ≤ (wd n (n + m)).1 ∧ (wd n (n + m)).2 ≤ t)))) then (wd n (n + m)).2 else 0) (bif (!(s != 0) && (decide (0 ≤ m ∧ m ≤ 4096) && (bokB n (n + m) && decide (b ≤ (wd n (n + m)).1 ∧ (wd n (n + m)).2 ≤ t)))) then p else 0) (bif (!(s != 0) && (decide (0 ≤ m ∧ m ≤ 4096) && (bokB n (n + m) && decide (b ≤ (wd n (n + m)).1 ∧ (wd n (n + m)).2 ≤ t)))) then s else 0) (!(s != 0) && (decide (0 ≤ m ∧ m ≤ 4096) && (bokB n (n + m) && decide (b ≤ (wd n (n + m)).1 ∧ (wd n (n + m)).2 ≤ t)))) w (fun args w => by first | rfl | (simp [callFunc, go_sem]; done)) (by kernel_rfl) (fun h w => by have g := rk_of h; exact narrowed_any n i b t p s m 0 false 0 0 0 0 g.2.2.1 g.2.2.2.1 w)
  have hc : (rkB n i b t p s && (!(s != 0) && (decide (0 ≤ m ∧ m ≤ 4096) && (bokB n (n + m) && decide (b ≤ (wd n (n + m)).1 ∧ (wd n (n + m)).2 ≤ t))))) = (narB n i b t p s m) := by unfold narB openB; rw [nz, Bool.and_assoc]
  have he := made_eq (rkB n i b t p s && (!(s != 0) && (decide (0 ≤ m ∧ m ≤ 4096) && (bokB n (n + m) && decide (b ≤ (wd n (n + m)).1 ∧ (wd n (n + m)).2 ≤ t))))) (n % 65536) (bif (!(s != 0) && (decide (0 ≤ m ∧ m ≤ 4096) && (bokB n (n + m) && decide (b ≤ (wd n (n + m)).1 ∧ (wd n (n + m)).2 ≤ t)))) then n else 0) (bif (!(s != 0) && (decide (0 ≤ m ∧ m ≤ 4096) && (bokB n (n + m) && decide (b ≤ (wd n (n + m)).1 ∧ (wd n (n + m)).2 ≤ t)))) then i else false) (bif (!(s != 0) && (decide (0 ≤ m ∧ m ≤ 4096) && (bokB n (n + m) && decide (b ≤ (wd n (n + m)).1 ∧ (wd n (n + m)).2 ≤ t)))) then (wd n (n + m)).1 else 0) (bif (!(s != 0) && (decide (0 ≤ m ∧ m ≤ 4096) && (bokB n (n + m) && decide (b ≤ (wd n (n + m)).1 ∧ (wd n (n + m)).2 ≤ t)))) then (wd n (n + m)).2 else 0) (bif (!(s != 0) && (decide (0 ≤ m ∧ m ≤ 4096) && (bokB n (n + m) && decide (b ≤ (wd n (n + m)).1 ∧ (wd n (n + m)).2 ≤ t)))) then p else 0) (bif (!(s != 0) && (decide (0 ≤ m ∧ m ≤ 4096) && (bokB n (n + m) && decide (b ≤ (wd n (n + m)).1 ∧ (wd n (n + m)).2 ≤ t)))) then s else 0) (wd n (n + m)).1 (wd n (n + m)).2 p s (by
    intro h
    rw [Bool.and_eq_true] at h
    obtain ⟨h1, h2⟩ := h
    obtain ⟨rfl, hn, _, _, _⟩ := rk_of h1
    rw [h2]; exact ⟨hn.symm, rfl, rfl, rfl, rfl, rfl⟩)
  rw [he, hc] at s2
  clear he hc
  obtain ⟨u0, u1, u2, u3, u4, u5, hV⟩ : ∃ (u0 : Int) (u1 : Bool) (u2 u3 u4 u5 : Int), madeV (n % 65536) (narB n i b t p s m) (wd n (n + m)).1 (wd n (n + m)).2 p s = .agg #[.int .i64 u0, .bool u1, .int .i64 u2, .int .i64 u3, .int .i64 u4, .int .i64 u5] := ⟨_, _, _, _, _, _, rfl⟩
  rw [hV] at s2 ⊢
  clear hV
  obtain ⟨o, ho⟩ : ∃ o, Hid (o = n % 65536) := ⟨_, rfl⟩
  rw [← ho.out] at s1 s2
  clear ho
  have S1 : Hid _ := s1
  have S2 : Hid _ := s2
  clear s1 s2
  go_enter Tryz.func182, Tryz.ntmps182
  go_upto_region 1 with fail
  have M0 : Hid _ := Fv.new w n i b t p s
  generalize ((w.alloc (.cells #[.int .i64 n, .bool i, .int .i64 b, .int .i64 t, .int .i64 p, .int .i64 s] 38)).alloc (.cells #[.int .i64 0, .bool false, .int .i64 0, .int .i64 0, .int .i64 0, .int .i64 0] 38)) = W0 at M0 ⊢
  have M1 : Hid _ := M0.out.drew
  obtain ⟨_, c0, c1, c2, c3, c4, c5, _, _, _, _, _, _⟩ := M0.out.a
  go_region_with (first | (go_at_call 168; refine (S1.out _).mono ?_; rintro e w2 ⟨rfl, hb2⟩; have M2 : Hid _ := M1.out.next hb2; clear hb2; obtain ⟨_, c0, c1, c2, c3, c4, c5, _, _, _, _, _, _⟩ := M2.out.a) | (go_at_call 141; refine (S2.out _).mono ?_; rintro e w3 ⟨rfl, hb3⟩; have M3 : Hid _ := M2.out.next hb3; clear hb3; obtain ⟨_, y0, y1, y2, y3, y4, y5, g0, g1, g2, g3, g4, g5⟩ := M3.out.z))
  all_goals
    go_wp2
    refine bodyPost_ret (v := .agg #[.int .i64 u0, .bool u1, .int .i64 u2, .int .i64 u3, .int .i64 u4, .int .i64 u5]) (by simp [results, Tryz.results182, go_sem, y0, y1, y2, y3, y4, y5]) rfl ⟨rfl, ?_⟩
    repeat' (first | (with_reducible exact M3.out.k) | (with_reducible apply Below.drew) | (with_reducible apply below_drewN) | (refine Below.setCell ?_ (by show w.heap.size ≤ _; dsimp only; omega) _))
set_option maxRecDepth 100000 in
set_option maxHeartbeats 4000000 in
theorem implPoint_any (n : Int) (i : Bool) (b t p s : Int) (m : Int) (w : World) :
    Calls Tryz.prog 114 #[.agg #[.int .i64 n, .bool i, .int .i64 b, .int .i64 t, .int .i64 p, .int .i64 s], .int .i64 m] w fun e w' => e = .returned (madeV (m % 65536) (openB n i b t p s) b t p s) ∧ Below w.heap.size w w' := by
  have s1 := implPlain_any m
  have s2 := fun w => madeOr_any (m % 65536) false 0 0 0 0 n i b t p s m 0 false 0 0 0 0 sPoint 190 2 (m % 65536) i b t p s (!(s != 0)) w (fun args w => by first | rfl | (simp [callFunc, go_sem]; done)) (by kernel_rfl) (fun _ w => pointed_any n i b t p s m 0 false 0 0 0 0 w)
  have hc : (rkB n i b t p s && (!(s != 0))) = (openB n i b t p s) := by unfold openB; rw [nz]
  have he := made_eq (rkB n i b t p s && (!(s != 0))) (m % 65536) (m % 65536) i b t p s b t p s (by
    intro h
    rw [Bool.and_eq_true] at h
    obtain ⟨h1, h2⟩ := h
    obtain ⟨rfl, hn, _, _, _⟩ := rk_of h1
    exact ⟨rfl, rfl, rfl, rfl, rfl, rfl⟩)
  rw [he, hc] at s2
  clear he hc
  obtain ⟨u0, u1, u2, u3, u4, u5, hV⟩ : ∃ (u0 : Int) (u1 : Bool) (u2 u3 u4 u5 : Int), madeV (m % 65536) (openB n i b t p s) b t p s = .agg #[.int .i64 u0, .bool u1, .int .i64 u2, .int .i64 u3, .int .i64 u4, .int .i64 u5] := ⟨_, _, _, _, _, _, rfl⟩
  rw [hV] at s2 ⊢
  clear hV
  obtain ⟨o, ho⟩ : ∃ o, Hid (o = m % 65536) := ⟨_, rfl⟩
  rw [← ho.out] at s1 s2
  clear ho
  have S1 : Hid _ := s1
  have S2 : Hid _ := s2
  clear s1 s2
  go_enter Tryz.func114, Tryz.ntmps114
  go_upto_region 1 with fail
  have M0 : Hid _ := Fv.new w n i b t p s
  generalize ((w.alloc (.cells #[.int .i64 n, .bool i, .int .i64 b, .int .i64 t, .int .i64 p, .int .i64 s] 38)).alloc (.cells #[.int .i64 0, .bool false, .int .i64 0, .int .i64 0, .int .i64 0, .int .i64 0] 38)) = W0 at M0 ⊢
  have M1 : Hid _ := M0.out.drew
  obtain ⟨_, c0, c1, c2, c3, c4, c5, _, _, _, _, _, _⟩ := M0.out.a
  go_region_with (first | (go_at_call 142; refine (S1.out _).mono ?_; rintro e w2 ⟨rfl, hb2⟩; have M2 : Hid _ := M1.out.next hb2; clear hb2; obtain ⟨_, c0, c1, c2, c3, c4, c5, _, _, _, _, _, _⟩ := M2.out.a) | (go_at_call 141; refine (S2.out _).mono ?_; rintro e w3 ⟨rfl, hb3⟩; have M3 : Hid _ := M2.out.next hb3; clear hb3; obtain ⟨_, y0, y1, y2, y3, y4, y5, g0, g1, g2, g3, g4, g5⟩ := M3.out.z))
  all_goals
    go_wp2
    refine bodyPost_ret (v := .agg #[.int .i64 u0, .bool u1, .int .i64 u2, .int .i64 u3, .int .i64 u4, .int .i64 u5]) (by simp [results, Tryz.results114, go_sem, y0, y1, y2, y3, y4, y5]) rfl ⟨rfl, ?_⟩
    repeat' (first | (with_reducible exact M3.out.k) | (with_reducible apply Below.drew) | (with_reducible apply below_drewN) | (refine Below.setCell ?_ (by show w.heap.size ≤ _; dsimp only; omega) _))
set_option maxRecDepth 100000 in
set_option maxHeartbeats 4000000 in
theorem implSealBy_any (n : Int) (i : Bool) (b t p s : Int) (n' : Int) (i' : Bool) (b' t' p' s' : Int) (w : World) :
    Calls Tryz.prog 183 #[.agg #[.int .i64 n, .bool i, .int .i64 b, .int .i64 t, .int .i64 p, .int .i64 s], .agg #[.int .i64 n', .bool i', .int .i64 b', .int .i64 t', .int .i64 p', .int .i64 s']] w fun e w' => e = .returned (madeV (n % 65536) (openB n i b t p s && mayB n' i' b' t' p' s') b t p n') ∧ Below w.heap.size w w' := by
  have s1 := implBare_any n i b t p s
  have s2 := fun w => madeOr_any (n % 65536) false 0 0 0 0 n i b t p s 0 n' i' b' t' p' s' sSeal 191 3 (bif (!(s != 0) && mayB n' i' b' t' p' s') then n else 0) (bif (!(s != 0) && mayB n' i' b' t' p' s') then i else false) (bif (!(s != 0) && mayB n' i' b' t' p' s') then b else 0) (bif (!(s != 0) && mayB n' i' b' t' p' s') then t else 0) (bif (!(s != 0) && mayB n' i' b' t' p' s') then p else 0) (bif (!(s != 0) && mayB n' i' b' t' p' s') then n' else 0) (!(s != 0) && mayB n' i' b' t' p' s') w (fun args w => by first | rfl | (simp [callFunc, go_sem]; done)) (by kernel_rfl) (fun _ w => sealedBy_any n i b t p s 0 n' i' b' t' p' s' w)
  have hc : (rkB n i b t p s && (!(s != 0) && mayB n' i' b' t' p' s')) = (openB n i b t p s && mayB n' i' b' t' p' s') := by unfold openB; rw [nz, Bool.and_assoc]
  have he := made_eq (rkB n i b t p s && (!(s != 0) && mayB n' i' b' t' p' s')) (n % 65536) (bif (!(s != 0) && mayB n' i' b' t' p' s') then n else 0) (bif (!(s != 0) && mayB n' i' b' t' p' s') then i else false) (bif (!(s != 0) && mayB n' i' b' t' p' s') then b else 0) (bif (!(s != 0) && mayB n' i' b' t' p' s') then t else 0) (bif (!(s != 0) && mayB n' i' b' t' p' s') then p else 0) (bif (!(s != 0) && mayB n' i' b' t' p' s') then n' else 0) b t p n' (by
    intro h
    rw [Bool.and_eq_true] at h
    obtain ⟨h1, h2⟩ := h
    obtain ⟨rfl, hn, _, _, _⟩ := rk_of h1
    rw [h2]; exact ⟨hn.symm, rfl, rfl, rfl, rfl, rfl⟩)
  rw [he, hc] at s2
  clear he hc
  obtain ⟨u0, u1, u2, u3, u4, u5, hV⟩ : ∃ (u0 : Int) (u1 : Bool) (u2 u3 u4 u5 : Int), madeV (n % 65536) (openB n i b t p s && mayB n' i' b' t' p' s') b t p n' = .agg #[.int .i64 u0, .bool u1, .int .i64 u2, .int .i64 u3, .int .i64 u4, .int .i64 u5] := ⟨_, _, _, _, _, _, rfl⟩
  rw [hV] at s2 ⊢
  clear hV
  obtain ⟨o, ho⟩ : ∃ o, Hid (o = n % 65536) := ⟨_, rfl⟩
  rw [← ho.out] at s1 s2
  clear ho
  have S1 : Hid _ := s1
  have S2 : Hid _ := s2
  clear s1 s2
  go_enter Tryz.func183, Tryz.ntmps183
  go_upto_region 1 with fail
  have M0 : Hid _ := Fw.new w n i b t p s n' i' b' t' p' s'
  generalize (((w.alloc (.cells #[.int .i64 n, .bool i, .int .i64 b, .int .i64 t, .int .i64 p, .int .i64 s] 38)).alloc (.cells #[.int .i64 n', .bool i', .int .i64 b', .int .i64 t', .int .i64 p', .int .i64 s'] 38)).alloc (.cells #[.int .i64 0, .bool false, .int .i64 0, .int .i64 0, .int .i64 0, .int .i64 0] 38)) = W0 at M0 ⊢
  have M1 : Hid _ := M0.out.drew
  obtain ⟨_, c0, c1, c2, c3, c4, c5, _, _, _, _, _, _⟩ := M0.out.a; obtain ⟨_, d0, d1, d2, d3, d4, d5, _, _, _, _, _, _⟩ := M0.out.y
  go_region_with (first | (go_at_call 168; refine (S1.out _).mono ?_; rintro e w2 ⟨rfl, hb2⟩; have M2 : Hid _ := M1.out.next hb2; clear hb2; obtain ⟨_, c0, c1, c2, c3, c4, c5, _, _, _, _, _, _⟩ := M2.out.a; obtain ⟨_, d0, d1, d2, d3, d4, d5, _, _, _, _, _, _⟩ := M2.out.y) | (go_at_call 141; refine (S2.out _).mono ?_; rintro e w3 ⟨rfl, hb3⟩; have M3 : Hid _ := M2.out.next hb3; clear hb3; obtain ⟨_, y0, y1, y2, y3, y4, y5, g0, g1, g2, g3, g4, g5⟩ := M3.out.z))
  all_goals
    go_wp2
    refine bodyPost_ret (v := .agg #[.int .i64 u0, .bool u1, .int .i64 u2, .int .i64 u3, .int .i64 u4, .int .i64 u5]) (by simp [results, Tryz.results183, go_sem, y0, y1, y2, y3, y4, y5]) rfl ⟨rfl, ?_⟩
    repeat' (first | (with_reducible exact M3.out.k) | (with_reducible apply Below.drew) | (with_reducible apply below_drewN) | (refine Below.setCell ?_ (by show w.heap.size ≤ _; dsimp only; omega) _))
set_option maxRecDepth 100000 in
set_option maxHeartbeats 4000000 in
theorem implOpenBy_any (n : Int) (i : Bool) (b t p s : Int) (n' : Int) (i' : Bool) (b' t' p' s' : Int) (w : World) :
    Calls Tryz.prog 184 #[.agg #[.int .i64 n, .bool i, .int .i64 b, .int .i64 t, .int .i64 p, .int .i64 s], .agg #[.int .i64 n', .bool i', .int .i64 b', .int .i64 t', .int .i64 p', .int .i64 s']] w fun e w' => e = .returned (madeV (n % 65536) (opnB n i b t p s n' i' b' t' p' s') b t p 0) ∧ Below w.heap.size w w' := by
  have s1 := implBare_any n i b t p s
  have s2 := fun w => madeOr_any (n % 65536) false 0 0 0 0 n i b t p s 0 n' i' b' t' p' s' sOpen 192 4 (bif (mayB n' i' b' t' p' s' && (s == n')) then n else 0) (bif (mayB n' i' b' t' p' s' && (s == n')) then i else false) (bif (mayB n' i' b' t' p' s' && (s == n')) then b else 0) (bif (mayB n' i' b' t' p' s' && (s == n')) then t else 0) (bif (mayB n' i' b' t' p' s' && (s == n')) then p else 0) (bif (mayB n' i' b' t' p' s' && (s == n')) then 0 else 0) (mayB n' i' b' t' p' s' && (s == n')) w (fun args w => by first | rfl | (simp [callFunc, go_sem]; done)) (by kernel_rfl) (fun _ w => openedBy_any n i b t p s 0 n' i' b' t' p' s' w)
  have hc : (rkB n i b t p s && (mayB n' i' b' t' p' s' && (s == n'))) = (opnB n i b t p s n' i' b' t' p' s') := by unfold opnB; rfl
  have he := made_eq (rkB n i b t p s && (mayB n' i' b' t' p' s' && (s == n'))) (n % 65536) (bif (mayB n' i' b' t' p' s' && (s == n')) then n else 0) (bif (mayB n' i' b' t' p' s' && (s == n')) then i else false) (bif (mayB n' i' b' t' p' s' && (s == n')) then b else 0) (bif (mayB n' i' b' t' p' s' && (s == n')) then t else 0) (bif (mayB n' i' b' t' p' s' && (s == n')) then p else 0) (bif (mayB n' i' b' t' p' s' && (s == n')) then 0 else 0) b t p 0 (by
    intro h
    rw [Bool.and_eq_true] at h
    obtain ⟨h1, h2⟩ := h
    obtain ⟨rfl, hn, _, _, _⟩ := rk_of h1
    rw [h2]; exact ⟨hn.symm, rfl, rfl, rfl, rfl, rfl⟩)
  rw [he, hc] at s2
  clear he hc
  obtain ⟨u0, u1, u2, u3, u4, u5, hV⟩ : ∃ (u0 : Int) (u1 : Bool) (u2 u3 u4 u5 : Int), madeV (n % 65536) (opnB n i b t p s n' i' b' t' p' s') b t p 0 = .agg #[.int .i64 u0, .bool u1, .int .i64 u2, .int .i64 u3, .int .i64 u4, .int .i64 u5] := ⟨_, _, _, _, _, _, rfl⟩
  rw [hV] at s2 ⊢
  clear hV
  obtain ⟨o, ho⟩ : ∃ o, Hid (o = n % 65536) := ⟨_, rfl⟩
  rw [← ho.out] at s1 s2
  clear ho
  have S1 : Hid _ := s1
  have S2 : Hid _ := s2
  clear s1 s2
  go_enter Tryz.func184, Tryz.ntmps184
  go_upto_region 1 with fail
  have M0 : Hid _ := Fw.new w n i b t p s n' i' b' t' p' s'
  generalize (((w.alloc (.cells #[.int .i64 n, .bool i, .int .i64 b, .int .i64 t, .int .i64 p, .int .i64 s] 38)).alloc (.cells #[.int .i64 n', .bool i', .int .i64 b', .int .i64 t', .int .i64 p', .int .i64 s'] 38)).alloc (.cells #[.int .i64 0, .bool false, .int .i64 0, .int .i64 0, .int .i64 0, .int .i64 0] 38)) = W0 at M0 ⊢
  have M1 : Hid _ := M0.out.drew
  obtain ⟨_, c0, c1, c2, c3, c4, c5, _, _, _, _, _, _⟩ := M0.out.a; obtain ⟨_, d0, d1, d2, d3, d4, d5, _, _, _, _, _, _⟩ := M0.out.y
  go_region_with (first | (go_at_call 168; refine (S1.out _).mono ?_; rintro e w2 ⟨rfl, hb2⟩; have M2 : Hid _ := M1.out.next hb2; clear hb2; obtain ⟨_, c0, c1, c2, c3, c4, c5, _, _, _, _, _, _⟩ := M2.out.a; obtain ⟨_, d0, d1, d2, d3, d4, d5, _, _, _, _, _, _⟩ := M2.out.y) | (go_at_call 141; refine (S2.out _).mono ?_; rintro e w3 ⟨rfl, hb3⟩; have M3 : Hid _ := M2.out.next hb3; clear hb3; obtain ⟨_, y0, y1, y2, y3, y4, y5, g0, g1, g2, g3, g4, g5⟩ := M3.out.z))
  all_goals
    go_wp2
    refine bodyPost_ret (v := .agg #[.int .i64 u0, .bool u1, .int .i64 u2, .int .i64 u3, .int .i64 u4, .int .i64 u5]) (by simp [results, Tryz.results184, go_sem, y0, y1, y2, y3, y4, y5]) rfl ⟨rfl, ?_⟩
    repeat' (first | (with_reducible exact M3.out.k) | (with_reducible apply Below.drew) | (with_reducible apply below_drewN) | (refine Below.setCell ?_ (by show w.heap.size ≤ _; dsimp only; omega) _))
end Go.Proofs.YtpkhnajhamnggaaGreatDoor
