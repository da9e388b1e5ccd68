/- KeyOk and Covers of the specification and of the program, at all keys: both answer the same. No condition. -/
import Derived.Test.YtpkhnajhamnggaaDoorWideX
import Derived.Test.YtpkhnajhamnggaaDoorKeyT
namespace Go.Proofs.YtpkhnajhamnggaaDoor
open Go.ChangeShapes Go.WideShapes Go.ChangeAt Go.RowKit

/-- A key as a value. -/
abbrev keyV (b t p s : Int) : Value := .agg #[.int .i64 b, .int .i64 t, .int .i64 p, .int .i64 s]

/-- What KeyOk answers. -/
def kokB (b t p s : Int) : Bool := exB b t && (decide (0 ≤ p ∧ p ≤ 63) && decide (0 ≤ s ∧ s ≤ 7))

/-- What Covers answers. -/
def covB (b t p s b' t' p' s' : Int) : Bool :=
  kokB b t p s && (kokB b' t' p' s' && (decide (b ≤ b' ∧ t' ≤ t) && (bits .and .i64 p p' == p')))

set_option maxHeartbeats 1000000 in
theorem specKeyOk_any (b t p s : Int) (w : World) :
    Calls Tryd.prog 23 #[.agg #[.int .i64 b, .int .i64 t, .int .i64 p, .int .i64 s]] w fun e w' => e = .returned (.bool (kokB b t p s)) ∧ Below w.heap.size w w' := by
  have s1 := specExact_any b t
  have s2 := in_any p 0 63
  have s3 := in_any s 0 7
  unfold kokB
  generalize exB b t = x at s1 ⊢
  generalize decide (0 ≤ p ∧ p ≤ 63) = y at s2 ⊢
  generalize decide (0 ≤ s ∧ s ≤ 7) = z at s3 ⊢
  have S1 : Hid _ := s1
  have S2 : Hid _ := s2
  have S3 : Hid _ := s3
  clear s1 s2 s3
  cases x <;> cases y <;> cases z
  all_goals
    go_enter Tryd.func23, Tryd.ntmps23
    go_wp2_with fail
    refine (S1.out _).mono ?_
    rintro e w1 ⟨rfl, hb1⟩
    obtain ⟨_, c0, c1, c2, c3, _, _, _, _⟩ := (Four.new w b t p s 34).below hb1
    have hB1 : Hid (Below w.heap.size w w1) := ((Below.refl _ w).alloc (Nat.le_refl _) _).trans (hb1.mono (by simp))
    clear hb1
    go_wp2_with (first | (go_at_call_of 12 (Value.int IntKind.i64 p); refine (S2.out _).mono ?_; rintro e w' ⟨rfl, rfl⟩) | (go_at_call_of 12 (Value.int IntKind.i64 s); refine (S3.out _).mono ?_; rintro e w' ⟨rfl, rfl⟩))
    go_ret
    exact ⟨rfl, hB1.out⟩

set_option maxHeartbeats 1000000 in
theorem implKeyOk_any (b t p s : Int) (w : World) :
    Calls Tryd.prog 42 #[.agg #[.int .i64 b, .int .i64 t, .int .i64 p, .int .i64 s]] w fun e w' => e = .returned (.bool (kokB b t p s)) ∧ Below w.heap.size w w' := by
  have s1 := implExact_any b t
  have hy : decide (0 ≤ p ∧ p ≤ 63) = (decide (0 ≤ p) && decide (p ≤ 63)) := by simp
  have hz : decide (0 ≤ s ∧ s ≤ 7) = (decide (0 ≤ s) && decide (s ≤ 7)) := by simp
  unfold kokB
  rw [hy, hz]
  clear hy hz
  generalize exB b t = x at s1 ⊢
  have S1 : Hid _ := s1
  clear s1
  by_cases p0 : 0 ≤ p <;> by_cases p1 : p ≤ 63 <;> by_cases q0 : 0 ≤ s <;> by_cases q1 : s ≤ 7 <;> try omega
  all_goals
    simp only [p0, p1, q0, q1, decide_true, decide_false, Bool.and_true, Bool.and_false]
    go_enter Tryd.func42, Tryd.ntmps42
    go_wp2_with fail
    refine (S1.out _).mono ?_
    rintro e w1 ⟨rfl, hb1⟩
    have hB1 : Hid (Below w.heap.size w w1) := ((Below.refl _ w).alloc (Nat.le_refl _) _).trans (hb1.mono (by simp))
    clear hb1
    cases x
    all_goals
      go_wp2
      go_ret
      exact ⟨rfl, hB1.out⟩

set_option maxHeartbeats 400000 in
theorem has_any (b t p s x : Int) (w : World) :
    Calls Tryd.prog 32 #[.agg #[.int .i64 b, .int .i64 t, .int .i64 p, .int .i64 s], .int .i64 x] w fun e w' => e = .returned (.bool (bits .and .i64 p x == x)) ∧ Below w.heap.size w w' := by
  go_enter Tryd.func32, Tryd.ntmps32
  go_wp2
  go_ret
  exact ⟨rfl, (Below.refl _ _).alloc (Nat.le_refl _) _⟩

end Go.Proofs.YtpkhnajhamnggaaDoor
