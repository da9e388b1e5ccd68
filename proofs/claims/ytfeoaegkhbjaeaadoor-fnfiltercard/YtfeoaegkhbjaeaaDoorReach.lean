/- Taken and MayPut of the specification and of the program, at all words: what they answer. No condition. -/
import Derived.Test.YtfeoaegkhbjaeaaDoorWordX
namespace Go.Proofs.YtfeoaegkhbjaeaaDoor
open Go.ChangeShapes Go.WideShapes Go.ChangeAt Go.RowKit

theorem and8 (p : Int) : bits .and .i64 p 8 = 0 ∨ bits .and .i64 p 8 = 8 := by
  have h5 : (BitVec.ofInt 64 8) = BitVec.twoPow 64 3 := by decide
  show IntKind.i64.wrap ((BitVec.ofInt 64 p &&& BitVec.ofInt 64 8).toNat : Nat) = 0 ∨ IntKind.i64.wrap ((BitVec.ofInt 64 p &&& BitVec.ofInt 64 8).toNat : Nat) = 8
  rw [h5, BitVec.and_twoPow]
  split
  · right; decide
  · left; decide
theorem and16 (p : Int) : bits .and .i64 p 16 = 0 ∨ bits .and .i64 p 16 = 16 := by
  have h5 : (BitVec.ofInt 64 16) = BitVec.twoPow 64 4 := by decide
  show IntKind.i64.wrap ((BitVec.ofInt 64 p &&& BitVec.ofInt 64 16).toNat : Nat) = 0 ∨ IntKind.i64.wrap ((BitVec.ofInt 64 p &&& BitVec.ofInt 64 16).toNat : Nat) = 16
  rw [h5, BitVec.and_twoPow]
  split
  · right; decide
  · left; decide
theorem and8_eq (p : Int) : (bits .and .i64 p 8 == 0) = !(bits .and .i64 p 8 == 8) := by
  rcases and8 p with h | h <;> rw [h] <;> decide
theorem and16_ne (p : Int) : (bits .and .i64 p 16 != 0) = (bits .and .i64 p 16 == 16) := by
  rcases and16 p with h | h <;> rw [h] <;> decide

/-- What Taken answers, c whether by may take. -/
def takV (c : Bool) (n : Int) (i : Bool) (b t p s : Int) : Value :=
  .agg #[.int .i64 (bif c then n else n % 65536), .bool (bif c then i else false), .int .i64 (bif c then b else 0), .int .i64 (bif c then t else 0), .int .i64 (bif c then p else 0), .int .i64 (bif c then s else 0)]

/-- Two words' blocks, the answer's behind them; nothing that was there has turned. -/
structure Th (w0 : World) (n' : Int) (i' : Bool) (b' t' p' s' n : Int) (i : Bool) (b t p s : Int) (w : World) : Prop where
  a : Six w w0.heap.size n' i' b' t' p' s'
  y : Six w (w0.heap.size + 1) n i b t p s
  z : Six w (w0.heap.size + 1 + 1) 0 false 0 0 0 0
  k : Below w0.heap.size w0 w
theorem Th.next {w0 w w' : World} {n' : Int} {i' : Bool} {b' t' p' s' n : Int} {i : Bool} {b t p s : Int} (h : Th w0 n' i' b' t' p' s' n i b t p s w) (hb : Below w.heap.size w w') : Th w0 n' i' b' t' p' s' n i b t p s w' :=
  ⟨h.a.below hb, h.y.below hb, h.z.below hb, h.k.trans (hb.mono h.k.size)⟩
theorem Th.new (w : World) (n' : Int) (i' : Bool) (b' t' p' s' n : Int) (i : Bool) (b t p s : Int) : Th w n' i' b' t' p' s' n i b t p s (((w.alloc (.cells #[.int .i64 n', .bool i', .int .i64 b', .int .i64 t', .int .i64 p', .int .i64 s'] 36)).alloc (.cells #[.int .i64 n, .bool i, .int .i64 b, .int .i64 t, .int .i64 p, .int .i64 s] 36)).alloc (.cells #[.int .i64 0, .bool false, .int .i64 0, .int .i64 0, .int .i64 0, .int .i64 0] 36)) :=
  ⟨((Six.new w n' i' b' t' p' s' _).alloc _).alloc _, (Six.second w _ n i b t p s _).alloc _, Six.third w _ _ 0 false 0 0 0 0 _, (((Below.refl _ w).alloc (Nat.le_refl _) _).alloc (by simp) _).alloc (by simp; omega) _⟩

set_option maxRecDepth 100000 in
set_option maxHeartbeats 2000000 in
theorem specTaken_any (n' : Int) (i' : Bool) (b' t' p' s' : Int) (n : Int) (i : Bool) (b t p s : Int) (w : World) :
    Calls Tryd.prog 57 #[.agg #[.int .i64 n', .bool i', .int .i64 b', .int .i64 t', .int .i64 p', .int .i64 s'], .agg #[.int .i64 n, .bool i, .int .i64 b, .int .i64 t, .int .i64 p, .int .i64 s]] w fun e w' => e = .returned (takV (bits .and .i64 p' 8 == 8) n i b t p s) ∧ Below w.heap.size w w' := by
  have s1 := specBare_any n i b t p s
  have he := and8_eq p'
  unfold takV
  generalize (bits .and .i64 p' 8 == 8) = c at he ⊢
  obtain ⟨m, hm⟩ : ∃ m, Hid (m = n % 65536) := ⟨_, rfl⟩
  rw [← hm.out] at s1 ⊢
  clear hm
  have S1 : Hid _ := s1
  clear s1
  go_enter Tryd.func57, Tryd.ntmps57
  go_upto_region 1 with fail
  have M0 : Hid _ := Th.new w n' i' b' t' p' s' n i b t p s
  generalize (((w.alloc (.cells #[.int .i64 n', .bool i', .int .i64 b', .int .i64 t', .int .i64 p', .int .i64 s'] 36)).alloc (.cells #[.int .i64 n, .bool i, .int .i64 b, .int .i64 t, .int .i64 p, .int .i64 s] 36)).alloc (.cells #[.int .i64 0, .bool false, .int .i64 0, .int .i64 0, .int .i64 0, .int .i64 0] 36)) = W0 at M0 ⊢
  obtain ⟨_, c0, c1, c2, c3, c4, c5, _, _, _, _, _, _⟩ := M0.out.a
  have M1 := M0
  obtain ⟨_, d0, d1, d2, d3, d4, d5, _, _, _, _, _, _⟩ := M1.out.y
  obtain ⟨_, y0, y1, y2, y3, y4, y5, g0, g1, g2, g3, g4, g5⟩ := M1.out.z
  cases c
  · go_wp2_with fail
    refine (S1.out _).mono ?_
    rintro e w2 ⟨rfl, hb2⟩
    have M2 : Hid _ := M1.out.next hb2
    clear hb2 d0 d1 d2 d3 d4 d5 y0 y1 y2 y3 y4 y5 g0 g1 g2 g3 g4 g5
    obtain ⟨_, y0, y1, y2, y3, y4, y5, g0, g1, g2, g3, g4, g5⟩ := M2.out.z
    go_wp2
    refine bodyPost_ret (v := .agg #[.int .i64 m, .bool false, .int .i64 0, .int .i64 0, .int .i64 0, .int .i64 0]) (by simp [results, Tryd.results57, go_sem, y0, y1, y2, y3, y4, y5]) rfl ⟨rfl, ?_⟩
    repeat' (first | (with_reducible exact M2.out.k) | (with_reducible apply Below.drew) | (refine Below.setCell ?_ (by show w.heap.size ≤ _; dsimp only; omega) _))
  · go_wp2
    refine bodyPost_ret (v := .agg #[.int .i64 n, .bool i, .int .i64 b, .int .i64 t, .int .i64 p, .int .i64 s]) (by simp [results, Tryd.results57, go_sem, y0, y1, y2, y3, y4, y5]) rfl ⟨rfl, ?_⟩
    repeat' (first | (with_reducible exact M1.out.k) | (with_reducible apply Below.drew) | (refine Below.setCell ?_ (by show w.heap.size ≤ _; dsimp only; omega) _))

set_option maxRecDepth 100000 in
set_option maxHeartbeats 2000000 in
theorem implTaken_any (n' : Int) (i' : Bool) (b' t' p' s' : Int) (n : Int) (i : Bool) (b t p s : Int) (w : World) :
    Calls Tryd.prog 51 #[.agg #[.int .i64 n', .bool i', .int .i64 b', .int .i64 t', .int .i64 p', .int .i64 s'], .agg #[.int .i64 n, .bool i, .int .i64 b, .int .i64 t, .int .i64 p, .int .i64 s]] w fun e w' => e = .returned (takV (bits .and .i64 p' 8 == 8) n i b t p s) ∧ Below w.heap.size w w' := by
  have s1 := implBare_any n i b t p s
  have s2 := has_any b' t' p' s' 8
  unfold takV
  generalize (bits .and .i64 p' 8 == 8) = c at s2 ⊢
  obtain ⟨m, hm⟩ : ∃ m, Hid (m = n % 65536) := ⟨_, rfl⟩
  rw [← hm.out] at s1 ⊢
  clear hm
  have S1 : Hid _ := s1
  clear s1
  have S2 : Hid _ := s2
  clear s2
  go_enter Tryd.func51, Tryd.ntmps51
  go_upto_region 1 with fail
  have M0 : Hid _ := Th.new w n' i' b' t' p' s' n i b t p s
  generalize (((w.alloc (.cells #[.int .i64 n', .bool i', .int .i64 b', .int .i64 t', .int .i64 p', .int .i64 s'] 36)).alloc (.cells #[.int .i64 n, .bool i, .int .i64 b, .int .i64 t, .int .i64 p, .int .i64 s] 36)).alloc (.cells #[.int .i64 0, .bool false, .int .i64 0, .int .i64 0, .int .i64 0, .int .i64 0] 36)) = W0 at M0 ⊢
  obtain ⟨_, c0, c1, c2, c3, c4, c5, _, _, _, _, _, _⟩ := M0.out.a
  go_wp2_with fail
  refine (S2.out _).mono ?_
  rintro e w1 ⟨rfl, hb1⟩
  have M1 : Hid _ := M0.out.next hb1
  clear hb1 c0 c1 c2 c3 c4 c5
  obtain ⟨_, d0, d1, d2, d3, d4, d5, _, _, _, _, _, _⟩ := M1.out.y
  obtain ⟨_, y0, y1, y2, y3, y4, y5, g0, g1, g2, g3, g4, g5⟩ := M1.out.z
  cases c
  · go_wp2_with fail
    refine (S1.out _).mono ?_
    rintro e w2 ⟨rfl, hb2⟩
    have M2 : Hid _ := M1.out.next hb2
    clear hb2 d0 d1 d2 d3 d4 d5 y0 y1 y2 y3 y4 y5 g0 g1 g2 g3 g4 g5
    obtain ⟨_, y0, y1, y2, y3, y4, y5, g0, g1, g2, g3, g4, g5⟩ := M2.out.z
    go_wp2
    refine bodyPost_ret (v := .agg #[.int .i64 m, .bool false, .int .i64 0, .int .i64 0, .int .i64 0, .int .i64 0]) (by simp [results, Tryd.results51, go_sem, y0, y1, y2, y3, y4, y5]) rfl ⟨rfl, ?_⟩
    repeat' (first | (with_reducible exact M2.out.k) | (with_reducible apply Below.drew) | (refine Below.setCell ?_ (by show w.heap.size ≤ _; dsimp only; omega) _))
  · go_wp2
    refine bodyPost_ret (v := .agg #[.int .i64 n, .bool i, .int .i64 b, .int .i64 t, .int .i64 p, .int .i64 s]) (by simp [results, Tryd.results51, go_sem, y0, y1, y2, y3, y4, y5]) rfl ⟨rfl, ?_⟩
    repeat' (first | (with_reducible exact M1.out.k) | (with_reducible apply Below.drew) | (refine Below.setCell ?_ (by show w.heap.size ≤ _; dsimp only; omega) _))

/-- What MayPut answers. -/
def putB (p' : Int) (i : Bool) : Bool := !i || (bits .and .i64 p' 16 == 16)

set_option maxHeartbeats 2000000 in
theorem specMayPut_any (n' : Int) (i' : Bool) (b' t' p' s' : Int) (n : Int) (i : Bool) (b t p s : Int) (w : World) :
    Calls Tryd.prog 80 #[.agg #[.int .i64 n', .bool i', .int .i64 b', .int .i64 t', .int .i64 p', .int .i64 s'], .agg #[.int .i64 n, .bool i, .int .i64 b, .int .i64 t, .int .i64 p, .int .i64 s]] w fun e w' => e = .returned (.bool (putB p' i)) ∧ Below w.heap.size w w' := by
  unfold putB
  rw [← and16_ne]
  have K : Hid (Below w.heap.size w ((w.alloc (.cells #[.int .i64 n', .bool i', .int .i64 b', .int .i64 t', .int .i64 p', .int .i64 s'] 36)).alloc (.cells #[.int .i64 n, .bool i, .int .i64 b, .int .i64 t, .int .i64 p, .int .i64 s] 36))) := ((Below.refl _ w).alloc (Nat.le_refl _) _).alloc (by simp) _
  cases i
  all_goals
    go_enter Tryd.func80, Tryd.ntmps80
    go_wp2
    go_ret
    exact ⟨rfl, K.out⟩

set_option maxHeartbeats 2000000 in
theorem implMayPut_any (n' : Int) (i' : Bool) (b' t' p' s' : Int) (n : Int) (i : Bool) (b t p s : Int) (w : World) :
    Calls Tryd.prog 52 #[.agg #[.int .i64 n', .bool i', .int .i64 b', .int .i64 t', .int .i64 p', .int .i64 s'], .agg #[.int .i64 n, .bool i, .int .i64 b, .int .i64 t, .int .i64 p, .int .i64 s]] w fun e w' => e = .returned (.bool (putB p' i)) ∧ Below w.heap.size w w' := by
  have s2 := has_any b' t' p' s' 16
  unfold putB
  generalize (bits .and .i64 p' 16 == 16) = c at s2 ⊢
  have S2 : Hid _ := s2
  clear s2
  have K : Hid (Below w.heap.size w ((w.alloc (.cells #[.int .i64 n', .bool i', .int .i64 b', .int .i64 t', .int .i64 p', .int .i64 s'] 36)).alloc (.cells #[.int .i64 n, .bool i, .int .i64 b, .int .i64 t, .int .i64 p, .int .i64 s] 36))) := ((Below.refl _ w).alloc (Nat.le_refl _) _).alloc (by simp) _
  cases i
  · go_enter Tryd.func52, Tryd.ntmps52
    go_wp2
    go_ret
    exact ⟨rfl, K.out⟩
  · go_enter Tryd.func52, Tryd.ntmps52
    go_wp2_with fail
    refine (S2.out _).mono ?_
    rintro e w1 ⟨rfl, hb1⟩
    go_wp2
    go_ret
    exact ⟨rfl, K.out.trans (hb1.mono K.out.size)⟩
end Go.Proofs.YtfeoaegkhbjaeaaDoor
