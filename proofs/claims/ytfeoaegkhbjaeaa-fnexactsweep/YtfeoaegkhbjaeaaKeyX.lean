/- KeyOk and Covers of the specification and of the program, at all keys: both answer the same. No condition. -/
import Derived.Test.YtfeoaegkhbjaeaaWideX
import Derived.Test.YtfeoaegkhbjaeaaKeyT
namespace Go.Proofs.Ytfeoaegkhbjaeaa
open Go.ChangeShapes Go.WideShapes Go.ChangeAt Go.RowKit

/-- A key as a value. -/
abbrev keyV (b t p s : Int) : Value := .agg #[.int .i64 b, .int .i64 t, .int .i64 p, .int .i64 s]

/-- What KeyOk answers. -/
def kokB (b t p s : Int) : Bool := exB b t && (decide (0 ≤ p ∧ p ≤ 63) && decide (0 ≤ s ∧ s ≤ 7))

/-- What Covers answers. -/
def covB (b t p s b' t' p' s' : Int) : Bool :=
  kokB b t p s && (kokB b' t' p' s' && (decide (b ≤ b' ∧ t' ≤ t) && (bits .and .i64 p p' == p')))

set_option maxHeartbeats 1000000 in
theorem specKeyOk_any (b t p s : Int) (w : World) :
    Calls Try.prog 55 #[.agg #[.int .i64 b, .int .i64 t, .int .i64 p, .int .i64 s]] w fun e w' => e = .returned (.bool (kokB b t p s)) ∧ Below w.heap.size w w' := by
  have s1 := specExact_any b t
  have s2 := in_any p 0 63
  have s3 := in_any s 0 7
  unfold kokB
  generalize exB b t = x at s1 ⊢
  generalize decide (0 ≤ p ∧ p ≤ 63) = y at s2 ⊢
  generalize decide (0 ≤ s ∧ s ≤ 7) = z at s3 ⊢
  have S1 : Hid _ := s1
  have S2 : Hid _ := s2
  have S3 : Hid _ := s3
  clear s1 s2 s3
  cases x <;> cases y <;> cases z
  all_goals
    go_enter Try.func55, Try.ntmps55
    go_wp2_with fail
    refine (S1.out _).mono ?_
    rintro e w1 ⟨rfl, hb1⟩
    obtain ⟨_, c0, c1, c2, c3, _, _, _, _⟩ := (Four.new w b t p s 45).below hb1
    have hB1 : Hid (Below w.heap.size w w1) := ((Below.refl _ w).alloc (Nat.le_refl _) _).trans (hb1.mono (by simp))
    clear hb1
    go_wp2_with (first | (go_at_call_of 35 (Value.int IntKind.i64 p); refine (S2.out _).mono ?_; rintro e w' ⟨rfl, rfl⟩) | (go_at_call_of 35 (Value.int IntKind.i64 s); refine (S3.out _).mono ?_; rintro e w' ⟨rfl, rfl⟩))
    go_ret
    exact ⟨rfl, hB1.out⟩

set_option maxHeartbeats 1000000 in
theorem implKeyOk_any (b t p s : Int) (w : World) :
    Calls Try.prog 60 #[.agg #[.int .i64 b, .int .i64 t, .int .i64 p, .int .i64 s]] w fun e w' => e = .returned (.bool (kokB b t p s)) ∧ Below w.heap.size w w' := by
  have s1 := implExact_any b t
  have hy : decide (0 ≤ p ∧ p ≤ 63) = (decide (0 ≤ p) && decide (p ≤ 63)) := by simp
  have hz : decide (0 ≤ s ∧ s ≤ 7) = (decide (0 ≤ s) && decide (s ≤ 7)) := by simp
  unfold kokB
  rw [hy, hz]
  clear hy hz
  generalize exB b t = x at s1 ⊢
  have S1 : Hid _ := s1
  clear s1
  by_cases p0 : 0 ≤ p <;> by_cases p1 : p ≤ 63 <;> by_cases q0 : 0 ≤ s <;> by_cases q1 : s ≤ 7 <;> try omega
  all_goals
    simp only [p0, p1, q0, q1, decide_true, decide_false, Bool.and_true, Bool.and_false]
    go_enter Try.func60, Try.ntmps60
    go_wp2_with fail
    refine (S1.out _).mono ?_
    rintro e w1 ⟨rfl, hb1⟩
    have hB1 : Hid (Below w.heap.size w w1) := ((Below.refl _ w).alloc (Nat.le_refl _) _).trans (hb1.mono (by simp))
    clear hb1
    cases x
    all_goals
      go_wp2
      go_ret
      exact ⟨rfl, hB1.out⟩

set_option maxHeartbeats 400000 in
theorem holds_any (b t p s x y : Int) (w : World) :
    Calls Try.prog 72 #[.agg #[.int .i64 b, .int .i64 t, .int .i64 p, .int .i64 s], .int .i64 x, .int .i64 y] w fun e w' => e = .returned (.bool (decide (b ≤ x ∧ y ≤ t))) ∧ Below w.heap.size w w' := by
  by_cases h0 : b ≤ x <;> by_cases h1 : y ≤ t
  all_goals
    go_enter Try.func72, Try.ntmps72
    go_wp2
    go_ret
    exact ⟨by simp [h0, h1], (Below.refl _ _).alloc (Nat.le_refl _) _⟩

set_option maxHeartbeats 400000 in
theorem has_any (b t p s x : Int) (w : World) :
    Calls Try.prog 73 #[.agg #[.int .i64 b, .int .i64 t, .int .i64 p, .int .i64 s], .int .i64 x] w fun e w' => e = .returned (.bool (bits .and .i64 p x == x)) ∧ Below w.heap.size w w' := by
  go_enter Try.func73, Try.ntmps73
  go_wp2
  go_ret
  exact ⟨rfl, (Below.refl _ _).alloc (Nat.le_refl _) _⟩

set_option maxHeartbeats 1000000 in
theorem covers_any (b t p s b' t' p' s' : Int) (w : World) :
    Calls Try.prog 65 #[.agg #[.int .i64 b, .int .i64 t, .int .i64 p, .int .i64 s], .agg #[.int .i64 b', .int .i64 t', .int .i64 p', .int .i64 s']] w fun e w' => e = .returned (.bool (covB b t p s b' t' p' s')) ∧ Below w.heap.size w w' := by
  have s1 := implKeyOk_any b t p s
  have s2 := implKeyOk_any b' t' p' s'
  have s3 := holds_any b t p s b' t'
  have s4 := has_any b t p s p'
  unfold covB
  generalize kokB b t p s = x at s1 ⊢
  generalize kokB b' t' p' s' = y at s2 ⊢
  generalize decide (b ≤ b' ∧ t' ≤ t) = z at s3 ⊢
  generalize (bits .and .i64 p p' == p') = v at s4 ⊢
  have S1 : Hid _ := s1
  have S2 : Hid _ := s2
  have S3 : Hid _ := s3
  have S4 : Hid _ := s4
  clear s1 s2 s3 s4
  go_enter Try.func65, Try.ntmps65
  go_wp2_with fail
  refine (S1.out _).mono ?_
  rintro e w1 ⟨rfl, hb1⟩
  have A1 : Hid (Four w1 w.heap.size b t p s) := ((Four.new w b t p s 45).alloc _).below hb1
  have B1 : Hid (Four w1 (w.heap.size + 1) b' t' p' s') := (Four.second w _ b' t' p' s' 45).below hb1
  have K1 : Hid (Below w.heap.size w w1) := (((Below.refl _ w).alloc (Nat.le_refl _) _).alloc (by simp) _).trans (hb1.mono (by simp; omega))
  clear hb1
  cases x
  · go_wp2
    go_ret
    exact ⟨rfl, K1.out⟩
  obtain ⟨_, a0, a1, a2, a3, _, _, _, _⟩ := A1.out
  obtain ⟨_, c0, c1, c2, c3, _, _, _, _⟩ := B1.out
  go_wp2_with fail
  refine (S2.out _).mono ?_
  rintro e w2 ⟨rfl, hb2⟩
  have A2 : Hid (Four w2 w.heap.size b t p s) := A1.out.below hb2
  have B2 : Hid (Four w2 (w.heap.size + 1) b' t' p' s') := B1.out.below hb2
  have K2 : Hid (Below w.heap.size w w2) := K1.out.trans (hb2.mono K1.out.size)
  clear hb2 A1 B1 K1 a0 a1 a2 a3 c0 c1 c2 c3
  cases y
  · go_wp2
    go_ret
    exact ⟨rfl, K2.out⟩
  obtain ⟨_, a0, a1, a2, a3, _, _, _, _⟩ := A2.out
  obtain ⟨_, c0, c1, c2, c3, _, _, _, _⟩ := B2.out
  go_wp2_with fail
  refine (S3.out _).mono ?_
  rintro e w3 ⟨rfl, hb3⟩
  have A3 : Hid (Four w3 w.heap.size b t p s) := A2.out.below hb3
  have B3 : Hid (Four w3 (w.heap.size + 1) b' t' p' s') := B2.out.below hb3
  have K3 : Hid (Below w.heap.size w w3) := K2.out.trans (hb3.mono K2.out.size)
  clear hb3 A2 B2 K2 a0 a1 a2 a3 c0 c1 c2 c3
  cases z
  · go_wp2
    go_ret
    exact ⟨rfl, K3.out⟩
  obtain ⟨_, a0, a1, a2, a3, _, _, _, _⟩ := A3.out
  obtain ⟨_, c0, c1, c2, c3, _, _, _, _⟩ := B3.out
  go_wp2_with fail
  refine (S4.out _).mono ?_
  rintro e w4 ⟨rfl, hb4⟩
  have K4 : Hid (Below w.heap.size w w4) := K3.out.trans (hb4.mono K3.out.size)
  clear hb4 A3 B3 K3 a0 a1 a2 a3 c0 c1 c2 c3
  go_wp2
  go_ret
  exact ⟨rfl, K4.out⟩

set_option maxHeartbeats 1000000 in
theorem specCovers_any (b t p s b' t' p' s' : Int) (w : World) :
    Calls Try.prog 70 #[.agg #[.int .i64 b, .int .i64 t, .int .i64 p, .int .i64 s], .agg #[.int .i64 b', .int .i64 t', .int .i64 p', .int .i64 s']] w fun e w' => e = .returned (.bool (covB b t p s b' t' p' s')) ∧ Below w.heap.size w w' := by
  have s1 := specKeyOk_any b t p s
  have s2 := specKeyOk_any b' t' p' s'
  unfold covB
  generalize kokB b t p s = x at s1 ⊢
  generalize kokB b' t' p' s' = y at s2 ⊢
  obtain ⟨z, hz⟩ : ∃ z, Hid (z = decide (b ≤ b' ∧ t' ≤ t)) := ⟨_, rfl⟩
  rw [← hz.out]
  have S1 : Hid _ := s1
  have S2 : Hid _ := s2
  clear s1 s2
  go_enter Try.func70, Try.ntmps70
  go_wp2_with fail
  refine (S1.out _).mono ?_
  rintro e w1 ⟨rfl, hb1⟩
  have A1 : Hid (Four w1 w.heap.size b t p s) := ((Four.new w b t p s 45).alloc _).below hb1
  have B1 : Hid (Four w1 (w.heap.size + 1) b' t' p' s') := (Four.second w _ b' t' p' s' 45).below hb1
  have K1 : Hid (Below w.heap.size w w1) := (((Below.refl _ w).alloc (Nat.le_refl _) _).alloc (by simp) _).trans (hb1.mono (by simp; omega))
  clear hb1
  cases x
  · go_wp2
    go_ret
    exact ⟨rfl, K1.out⟩
  obtain ⟨_, a0, a1, a2, a3, _, _, _, _⟩ := A1.out
  obtain ⟨_, c0, c1, c2, c3, _, _, _, _⟩ := B1.out
  go_wp2_with fail
  refine (S2.out _).mono ?_
  rintro e w2 ⟨rfl, hb2⟩
  have A2 : Hid (Four w2 w.heap.size b t p s) := A1.out.below hb2
  have B2 : Hid (Four w2 (w.heap.size + 1) b' t' p' s') := B1.out.below hb2
  have K2 : Hid (Below w.heap.size w w2) := K1.out.trans (hb2.mono K1.out.size)
  clear hb2 A1 B1 K1 a0 a1 a2 a3 c0 c1 c2 c3
  cases y
  · go_wp2
    go_ret
    exact ⟨rfl, K2.out⟩
  obtain ⟨_, a0, a1, a2, a3, _, _, _, _⟩ := A2.out
  obtain ⟨_, c0, c1, c2, c3, _, _, _, _⟩ := B2.out
  by_cases h0 : b ≤ b' <;> by_cases h1 : t' ≤ t
  all_goals
    have hz' := hz.out
    simp [h0, h1] at hz'
    subst hz'
    clear hz
    go_wp2
    go_ret
    exact ⟨rfl, K2.out⟩
end Go.Proofs.Ytfeoaegkhbjaeaa
