/- The kinds of place of the program: placeOf, ins, registerSet, fieldsFit, isRegister. No condition. -/
import Derived.Test.YtpkhnajhamnggaaDoorIns
namespace Go.Proofs.YtpkhnajhamnggaaDoor
open Go.ChangeShapes Go.WideShapes Go.ChangeAt Go.RowKit

set_option maxHeartbeats 400000 in
theorem isReg_any (a : Int) (w : World) :
    Calls Tryd.prog 34 #[.int .i64 a] w fun e w' => e = .returned (.bool (decide (0 ≤ a ∧ a ≤ 7))) ∧ w' = w := by
  have h : decide (0 ≤ a ∧ a ≤ 7) = (decide (0 ≤ a) && decide (a < 8)) := by
    by_cases h0 : 0 ≤ a <;> by_cases h1 : a < 8 <;> simp [h0, h1] <;> omega
  rw [h]
  by_cases h0 : 0 ≤ a <;> by_cases h1 : a < 8 <;> simp only [h0, h1, decide_true, decide_false, Bool.true_and, Bool.false_and, Bool.and_true]
  all_goals
    go_enter Tryd.func34, Tryd.ntmps34
    go_wp2
    go_ret
    exact ⟨rfl, rfl⟩

/-- What fieldsFit answers. -/
def fitB (r a b n : Int) : Bool := decide (0 ≤ r ∧ r ≤ 7) && (decide (0 ≤ a ∧ a ≤ 7) && (decide (0 ≤ b ∧ b ≤ 7) && decide (-128 ≤ n ∧ n ≤ 127)))
set_option maxRecDepth 100000 in
set_option maxHeartbeats 2000000 in
theorem fits_any (o r a b n : Int) (w : World) :
    Calls Tryd.prog 27 #[.agg #[.int .i64 o, .int .i64 r, .int .i64 a, .int .i64 b, .int .i64 n]] w fun e w' => e = .returned (.bool (fitB r a b n)) ∧ Below w.heap.size w w' := by
  have s1 := isReg_any r
  have s2 := isReg_any a
  have s3 := isReg_any b
  unfold fitB
  have h : decide (-128 ≤ n ∧ n ≤ 127) = (decide (-128 ≤ n) && decide (n ≤ 127)) := by simp
  rw [h]
  clear h
  generalize decide (0 ≤ r ∧ r ≤ 7) = y1 at s1 ⊢
  generalize decide (0 ≤ a ∧ a ≤ 7) = y2 at s2 ⊢
  generalize decide (0 ≤ b ∧ b ≤ 7) = y3 at s3 ⊢
  have S1 : Hid _ := s1
  have S2 : Hid _ := s2
  have S3 : Hid _ := s3
  clear s1 s2 s3
  go_enter Tryd.func27, Tryd.ntmps27
  go_wp2_with fail
  refine (S1.out _).mono ?_
  rintro e w' ⟨rfl, rfl⟩
  cases y1
  · go_wp2
    go_ret
    exact ⟨rfl, (Below.refl _ _).alloc (Nat.le_refl _) _⟩
  go_wp2_with fail
  refine (S2.out _).mono ?_
  rintro e w' ⟨rfl, rfl⟩
  cases y2
  · go_wp2
    go_ret
    exact ⟨rfl, (Below.refl _ _).alloc (Nat.le_refl _) _⟩
  go_wp2_with fail
  refine (S3.out _).mono ?_
  rintro e w' ⟨rfl, rfl⟩
  cases y3
  · go_wp2
    go_ret
    exact ⟨rfl, (Below.refl _ _).alloc (Nat.le_refl _) _⟩
  by_cases h0 : -128 ≤ n
  · by_cases h1 : n ≤ 127
    · go_wp2
      go_ret
      exact ⟨by simp [h0, h1], (Below.refl _ _).alloc (Nat.le_refl _) _⟩
    · go_wp2
      go_ret
      exact ⟨by simp; omega, (Below.refl _ _).alloc (Nat.le_refl _) _⟩
  · go_wp2
    go_ret
    exact ⟨by simp; omega, (Below.refl _ _).alloc (Nat.le_refl _) _⟩

/-- The place that placeOf answers: of nine kinds. -/
def plcV (o r a b n : Int) : Value :=
  if o = 1 then .iface 69 (.agg #[.int .i64 r, .int .i64 n])
  else if o = 3 ∨ o = 9 ∨ o = 12 then .iface 71 (.agg #[.int .i64 o, .int .i64 r, .int .i64 a])
  else if o = 2 ∨ o = 4 ∨ o = 5 ∨ o = 7 ∨ o = 8 then .iface 73 (.agg #[.int .i64 o, .int .i64 r, .int .i64 a, .int .i64 b])
  else if o = 6 then .iface 75 (.agg #[.int .i64 r, .int .i64 a, .int .i64 b, .int .i64 n])
  else if o = 10 then .iface 77 (.agg #[.int .i64 r, .int .i64 a, .int .i64 n])
  else if o = 11 then .iface 79 (.agg #[.int .i64 a, .int .i64 b, .int .i64 n])
  else if o = 13 then .iface 81 (.agg #[.int .i64 a, .int .i64 n])
  else if o = 14 then .iface 83 (.agg #[.int .i64 a])
  else if o = 15 then .iface 85 (.agg #[])
  else .nilIface

set_option maxRecDepth 100000 in
set_option maxHeartbeats 4000000 in
theorem placeOf_any (o r a b n : Int) (w : World) :
    Calls Tryd.prog 26 #[.agg #[.int .i64 o, .int .i64 r, .int .i64 a, .int .i64 b, .int .i64 n]] w fun e w' => e = .returned (.tuple #[plcV o r a b n, .bool (decide (1 ≤ o ∧ o ≤ 15))]) ∧ Below w.heap.size w w' := by
  by_cases h : 1 ≤ o ∧ o ≤ 15
  · rcases op_cases h with rfl | rfl | rfl | rfl | rfl | rfl | rfl | rfl | rfl | rfl | rfl | rfl | rfl | rfl | rfl
    all_goals
      go_enter Tryd.func26, Tryd.ntmps26
      go_wp2
      go_ret2
      refine ⟨rfl, ?_⟩
      repeat (first | exact Below.refl _ _ | refine Below.alloc ?_ (by simp; try omega) _ | refine Below.setCell ?_ (by simp; try omega) _)
  · have e : plcV o r a b n = .nilIface := by
      unfold plcV
      repeat' (rw [if_neg (by omega)])
    rw [e, decide_eq_false h]
    clear e
    go_enter Tryd.func26, Tryd.ntmps26
    go_wp2
    go_ret2
    refine ⟨rfl, ?_⟩
    repeat (first | exact Below.refl _ _ | refine Below.alloc ?_ (by simp; try omega) _ | refine Below.setCell ?_ (by simp; try omega) _)
end Go.Proofs.YtpkhnajhamnggaaDoor
