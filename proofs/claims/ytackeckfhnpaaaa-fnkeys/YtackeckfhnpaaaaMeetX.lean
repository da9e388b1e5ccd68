/- Meet of the specification and of the program, at every two keys: both answer the same. No condition. -/
import Derived.Test.YtackeckfhnpaaaaKeyX
namespace Go.Proofs.Ytackeckfhnpaaaa
open Go.ChangeShapes Go.WideShapes Go.ChangeAt Go.RowKit

/-- Is there a key of both? -/
def meetB (b t p s b' t' p' s' : Int) : Bool := kokB b t p s && (kokB b' t' p' s' && kokB (max b b') (min t t') (bits .and .i64 p p') 0)

/-- What Meet answers. -/
def meetV (b t p s b' t' p' s' : Int) : Value :=
  if meetB b t p s b' t' p' s' then .agg #[.int .i64 (max b b'), .int .i64 (min t t'), .int .i64 (bits .and .i64 p p'), .int .i64 0] else .agg #[.int .i64 0, .int .i64 0, .int .i64 0, .int .i64 0]

theorem meetV_form (b t p s b' t' p' s' : Int) : ∃ m0 m1 m2 m3 : Int, meetV b t p s b' t' p' s' = .agg #[.int .i64 m0, .int .i64 m1, .int .i64 m2, .int .i64 m3] := by
  unfold meetV; split <;> exact ⟨_, _, _, _, rfl⟩

theorem max_any (a b : Int) (w : World) :
    Calls Try.prog 24 #[.int .i64 a, .int .i64 b] w fun e w' => e = .returned (.int .i64 (max a b)) ∧ w' = w := by
  by_cases h0 : b < a
  · rw [Int.max_eq_left (by omega)]
    go_enter Try.func24, Try.ntmps24
    go_wp2
    go_ret
    exact ⟨rfl, rfl⟩
  · rw [Int.max_eq_right (by omega)]
    go_enter Try.func24, Try.ntmps24
    go_wp2
    go_ret
    exact ⟨rfl, rfl⟩

/-- Two keys and a zero one in three new blocks; nothing that was there in w0 has turned. -/
structure TwoZ (w0 : World) (x0 x1 x2 x3 x4 x5 x6 x7 : Int) (w : World) : Prop where
  a : Four w w0.heap.size x0 x1 x2 x3
  b : Four w (w0.heap.size + 1) x4 x5 x6 x7
  z : Four w (w0.heap.size + 1 + 1) 0 0 0 0
  k : Below w0.heap.size w0 w
theorem TwoZ.next {w0 w w' : World} {x0 x1 x2 x3 x4 x5 x6 x7 : Int} (h : TwoZ w0 x0 x1 x2 x3 x4 x5 x6 x7 w) (hb : Below w.heap.size w w') : TwoZ w0 x0 x1 x2 x3 x4 x5 x6 x7 w' :=
  ⟨h.a.below hb, h.b.below hb, h.z.below hb, h.k.trans (hb.mono h.k.size)⟩
theorem TwoZ.new (w : World) (x0 x1 x2 x3 x4 x5 x6 x7 : Int) (T T' T'' : TypeId) :
    TwoZ w x0 x1 x2 x3 x4 x5 x6 x7 (((w.alloc (.cells #[.int .i64 x0, .int .i64 x1, .int .i64 x2, .int .i64 x3] T)).alloc (.cells #[.int .i64 x4, .int .i64 x5, .int .i64 x6, .int .i64 x7] T')).alloc (.cells #[.int .i64 0, .int .i64 0, .int .i64 0, .int .i64 0] T'')) := by
  have h := TwoK.new w x0 x1 x2 x3 x4 x5 x6 x7 T T'
  refine ⟨h.a.alloc _, h.b.alloc _, ?_, h.k.alloc (by simp; omega) _⟩
  have g := Four.second (w.alloc (.cells #[.int .i64 x0, .int .i64 x1, .int .i64 x2, .int .i64 x3] T)) (.cells #[.int .i64 x4, .int .i64 x5, .int .i64 x6, .int .i64 x7] T') 0 0 0 0 T''
  simpa using g

set_option maxHeartbeats 2000000 in
theorem implMeet_at (b t p s b' t' p' s' M N : Int) (x y z : Bool) (w : World) (cM : (M = b' ∧ b < b') ∨ (M = b ∧ ¬ b < b')) (cN : (N = t' ∧ t' < t) ∨ (N = t ∧ ¬ t' < t))
    (S1 : Hid (∀ w, Calls Try.prog 16 #[.agg #[.int .i64 b, .int .i64 t, .int .i64 p, .int .i64 s]] w fun e w' => e = .returned (.bool x) ∧ Below w.heap.size w w'))
    (S2 : Hid (∀ w, Calls Try.prog 16 #[.agg #[.int .i64 b', .int .i64 t', .int .i64 p', .int .i64 s']] w fun e w' => e = .returned (.bool y) ∧ Below w.heap.size w w'))
    (S3 : Hid (∀ w, Calls Try.prog 16 #[.agg #[.int .i64 M, .int .i64 N, .int .i64 (bits .and .i64 p p'), .int .i64 0]] w fun e w' => e = .returned (.bool z) ∧ Below w.heap.size w w')) :
    Calls Try.prog 12 #[.agg #[.int .i64 b, .int .i64 t, .int .i64 p, .int .i64 s], .agg #[.int .i64 b', .int .i64 t', .int .i64 p', .int .i64 s']] w fun e w' =>
      e = .returned (.tuple #[if (x && (y && z)) = true then .agg #[.int .i64 M, .int .i64 N, .int .i64 (bits .and .i64 p p'), .int .i64 0] else .agg #[.int .i64 0, .int .i64 0, .int .i64 0, .int .i64 0], .bool (x && (y && z))]) ∧ Below w.heap.size w w' := by
  have CM : Hid _ := cM
  have CN : Hid _ := cN
  clear cM cN
  have T0 : Hid _ := TwoZ.new w b t p s b' t' p' s' 25 25 25
  go_enter Try.func12, Try.ntmps12
  go_wp2_with fail
  refine (S1.out _).mono ?_
  rintro e w1 ⟨rfl, hb1⟩
  have T1 : Hid _ := T0.out.next hb1
  clear hb1 T0
  cases x
  · obtain ⟨_, z0, z1, z2, z3, f0, f1, f2, f3⟩ := T1.out.z
    go_wp2
    refine bodyPost_ret (v := .tuple #[.agg #[.int .i64 0, .int .i64 0, .int .i64 0, .int .i64 0], .bool false]) (by simp [results, Try.results12, go_sem, z0, z1, z2, z3]) rfl ⟨rfl, ?_⟩
    repeat (first | exact T1.out.k | refine Below.setCell ?_ (by simp; try omega) _)
  obtain ⟨_, a0, a1, a2, a3, _, _, _, _⟩ := T1.out.a
  obtain ⟨_, c0, c1, c2, c3, _, _, _, _⟩ := T1.out.b
  go_wp2_with fail
  refine (S2.out _).mono ?_
  rintro e w2 ⟨rfl, hb2⟩
  have T2 : Hid _ := T1.out.next hb2
  clear hb2 T1 a0 a1 a2 a3 c0 c1 c2 c3
  cases y
  · obtain ⟨_, z0, z1, z2, z3, f0, f1, f2, f3⟩ := T2.out.z
    go_wp2
    refine bodyPost_ret (v := .tuple #[.agg #[.int .i64 0, .int .i64 0, .int .i64 0, .int .i64 0], .bool false]) (by simp [results, Try.results12, go_sem, z0, z1, z2, z3]) rfl ⟨rfl, ?_⟩
    repeat (first | exact T2.out.k | refine Below.setCell ?_ (by simp; try omega) _)
  obtain ⟨_, a0, a1, a2, a3, _, _, _, _⟩ := T2.out.a
  obtain ⟨_, c0, c1, c2, c3, _, _, _, _⟩ := T2.out.b
  rcases CM.out with ⟨hM, h0⟩ | ⟨hM, h0⟩ <;> rcases CN.out with ⟨hN, h1⟩ | ⟨hN, h1⟩
  all_goals
    subst hM hN
    clear CM CN
    go_wp2_with fail
    refine (S3.out _).mono ?_
    rintro e w3 ⟨rfl, hb3⟩
    have F3 : Hid (Four w3 w2.heap.size M N (bits .and .i64 p p') 0) := (Four.new w2 M N (bits .and .i64 p p') 0 25).below hb3
    have T3 : Hid _ := (T2.out.next ((Below.refl _ _).alloc (Nat.le_refl _) _)).next hb3
    have n3 := T2.out.z.lt
    clear hb3 T2 a0 a1 a2 a3 c0 c1 c2 c3
    obtain ⟨_, z0, z1, z2, z3, f0, f1, f2, f3⟩ := T3.out.z
    obtain ⟨_, a0, a1, a2, a3, _, _, _, _⟩ := F3.out
    cases z
    · go_wp2
      refine bodyPost_ret (v := .tuple #[.agg #[.int .i64 0, .int .i64 0, .int .i64 0, .int .i64 0], .bool false]) (by simp [results, Try.results12, go_sem, z0, z1, z2, z3]) rfl ⟨rfl, ?_⟩
      repeat (first | exact T3.out.k | refine Below.setCell ?_ (by simp; try omega) _)
    · go_wp2
      refine bodyPost_ret (v := .tuple #[.agg #[.int .i64 M, .int .i64 N, .int .i64 (bits .and .i64 p p'), .int .i64 0], .bool true]) (by simp [results, Try.results12, go_sem, z0, z1, z2, z3]) rfl ⟨rfl, ?_⟩
      repeat (first | exact T3.out.k | refine Below.setCell ?_ (by simp; try omega) _)

theorem implMeet_any (b t p s b' t' p' s' : Int) (w : World) :
    Calls Try.prog 12 #[.agg #[.int .i64 b, .int .i64 t, .int .i64 p, .int .i64 s], .agg #[.int .i64 b', .int .i64 t', .int .i64 p', .int .i64 s']] w fun e w' => e = .returned (.tuple #[meetV b t p s b' t' p' s', .bool (meetB b t p s b' t' p' s')]) ∧ Below w.heap.size w w' :=
  implMeet_at b t p s b' t' p' s' (max b b') (min t t') _ _ _ w (by omega) (by omega) (implKeyOk_any b t p s) (implKeyOk_any b' t' p' s') (implKeyOk_any _ _ _ _)
end Go.Proofs.Ytackeckfhnpaaaa
