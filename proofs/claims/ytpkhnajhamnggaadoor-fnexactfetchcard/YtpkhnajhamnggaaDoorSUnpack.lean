/- Unpack of the specification and of the program, at every Packed. No condition. -/
import Derived.Test.YtpkhnajhamnggaaDoorPok
namespace Go.Proofs.YtpkhnajhamnggaaDoor
open Go.ChangeShapes Go.WideShapes Go.ChangeAt Go.RowKit

theorem in_any (a lo hi : Int) (w : World) :
    Calls Tryd.prog 12 #[.int .i64 a, .int .i64 lo, .int .i64 hi] w fun e w' => e = .returned (.bool (decide (lo ≤ a ∧ a ≤ hi))) ∧ w' = w := by
  by_cases h0 : lo ≤ a <;> by_cases h1 : a ≤ hi
  all_goals
    go_enter Tryd.func12, Tryd.ntmps12
    go_wp2
    go_ret
    simp [h0, h1]

theorem min_any (a b : Int) (w : World) :
    Calls Tryd.prog 43 #[.int .i64 a, .int .i64 b] w fun e w' => e = .returned (.int .i64 (min a b)) ∧ w' = w := by
  by_cases h0 : a < b
  · rw [Int.min_eq_left (by omega)]
    go_enter Tryd.func43, Tryd.ntmps43
    go_wp2
    go_ret
    exact ⟨rfl, rfl⟩
  · rw [Int.min_eq_right (by omega)]
    go_enter Tryd.func43, Tryd.ntmps43
    go_wp2
    go_ret
    exact ⟨rfl, rfl⟩

/-- What Unpack answers. -/
def upLo (E B : Int) : Int := B * 2 ^ E.toNat
def upHi (E B L : Int) : Int := min ((B + L) * 2 ^ E.toNat) 4096
def up (E B L : Int) : Value := if pokB E B L then .tuple #[.int .i64 (upLo E B), .int .i64 (upHi E B L), .bool true] else .tuple #[.int .i64 0, .int .i64 0, .bool false]

theorem pok_of {E B L : Int} (h : pokB E B L = true) : 0 ≤ E ∧ E ≤ 6 ∧ 0 ≤ B ∧ B ≤ 63 ∧ 0 ≤ L ∧ L ≤ 63 := by simpa [pokB] using h

set_option maxHeartbeats 1000000 in
theorem specUnpack_yes (E B L : Int) (w : World) (h : pokB E B L = true) :
    Calls Tryd.prog 41 #[.agg #[.int .i64 E, .int .i64 B, .int .i64 L]] w fun e w' => e = .returned (.tuple #[.int .i64 (upLo E B), .int .i64 (upHi E B L), .bool true]) ∧ Below w.heap.size w w' := by
  obtain ⟨h0, h1, h2, h3, h4, h5⟩ := pok_of h
  clear h
  obtain rfl | rfl | rfl | rfl | rfl | rfl | rfl : E = 0 ∨ E = 1 ∨ E = 2 ∨ E = 3 ∨ E = 4 ∨ E = 5 ∨ E = 6 := by omega
  all_goals
    go_enter Tryd.func41, Tryd.ntmps41
    go_wp2_with (first | (go_at_call 12; refine (in_any _ _ _ _).mono ?_; rintro e w' ⟨rfl, rfl⟩))
    go_quiet ((go_at_call 43; exact Calls.quiet_of_same (min_any _ _ _)))
    go_wp2
    go_ret3
    refine ⟨?_, below_drewN ((Below.refl _ _).alloc (Nat.le_refl _) _) _⟩
    simp [upLo, upHi]

set_option maxHeartbeats 1000000 in
theorem specUnpack_no (E B L : Int) (w : World) (h : pokB E B L = false) :
    Calls Tryd.prog 41 #[.agg #[.int .i64 E, .int .i64 B, .int .i64 L]] w fun e w' => e = .returned (.tuple #[.int .i64 0, .int .i64 0, .bool false]) ∧ Below w.heap.size w w' := by
  have hn : ¬ (0 ≤ E ∧ E ≤ 6 ∧ 0 ≤ B ∧ B ≤ 63 ∧ 0 ≤ L ∧ L ≤ 63) := by simpa only [pokB, decide_eq_false_iff_not] using h
  clear h
  have d1 : decide (0 ≤ E ∧ E ≤ 6) = true ∨ decide (0 ≤ E ∧ E ≤ 6) = false := by cases decide (0 ≤ E ∧ E ≤ 6) <;> simp
  have d2 : decide (0 ≤ B ∧ B ≤ 63) = true ∨ decide (0 ≤ B ∧ B ≤ 63) = false := by cases decide (0 ≤ B ∧ B ≤ 63) <;> simp
  have d3 : decide (0 ≤ L ∧ L ≤ 63) = true ∨ decide (0 ≤ L ∧ L ≤ 63) = false := by cases decide (0 ≤ L ∧ L ≤ 63) <;> simp
  rcases d1 with d1 | d1 <;> rcases d2 with d2 | d2 <;> rcases d3 with d3 | d3
  all_goals
    first
      | (exfalso; simp only [decide_eq_true_eq] at d1 d2 d3; exact hn ⟨d1.1, d1.2, d2.1, d2.2, d3.1, d3.2⟩)
      | (clear hn
         have s1 := in_any E 0 6
         have s2 := in_any B 0 63
         have s3 := in_any L 0 63
         rw [d1] at s1
         rw [d2] at s2
         rw [d3] at s3
         have S1 : Hid _ := s1
         have S2 : Hid _ := s2
         have S3 : Hid _ := s3
         clear s1 s2 s3 d1 d2 d3
         go_enter Tryd.func41, Tryd.ntmps41
         go_wp2_with (first | (go_at_call_of 12 (Value.int IntKind.i64 E); refine (S1.out _).mono ?_; rintro e w' ⟨rfl, rfl⟩) | (go_at_call_of 12 (Value.int IntKind.i64 B); refine (S2.out _).mono ?_; rintro e w' ⟨rfl, rfl⟩) | (go_at_call_of 12 (Value.int IntKind.i64 L); refine (S3.out _).mono ?_; rintro e w' ⟨rfl, rfl⟩))
         go_ret3
         exact ⟨rfl, (Below.refl _ _).alloc (Nat.le_refl _) _⟩)

set_option maxHeartbeats 2000000 in
theorem implUnpack_yes (E B L : Int) (w : World) (h : pokB E B L = true) :
    Calls Tryd.prog 48 #[.agg #[.int .i64 E, .int .i64 B, .int .i64 L]] w fun e w' => e = .returned (.tuple #[.int .i64 (upLo E B), .int .i64 (upHi E B L), .bool true]) ∧ Below w.heap.size w w' := by
  have s1 := packedOk_any E B L
  rw [h] at s1
  have S1 : Hid _ := s1
  clear s1
  obtain ⟨h0, h1, h2, h3, h4, h5⟩ := pok_of h
  clear h
  obtain rfl | rfl | rfl | rfl | rfl | rfl | rfl : E = 0 ∨ E = 1 ∨ E = 2 ∨ E = 3 ∨ E = 4 ∨ E = 5 ∨ E = 6 := by omega
  all_goals
    go_enter Tryd.func48, Tryd.ntmps48
    go_wp2_with fail
    refine (S1.out _).mono ?_
    rintro e w1 ⟨rfl, hb1⟩
    have c0 := hb1.cell (p := ⟨w.heap.size, 0, none⟩) (by simp)
    simp at c0
    have c1 : w1.cell? ⟨w.heap.size, 1, none⟩ = some (.int .i64 B) := (hb1.cell (p := ⟨w.heap.size, 1, none⟩) (by simp)).trans (by simp)
    have c2 : w1.cell? ⟨w.heap.size, 2, none⟩ = some (.int .i64 L) := (hb1.cell (p := ⟨w.heap.size, 2, none⟩) (by simp)).trans (by simp)
    have hB1 : Below w.heap.size w w1 := ((Below.refl _ w).alloc (Nat.le_refl _) _).trans (hb1.mono (by simp))
    clear hb1
    go_wp2
    go_quiet (fail)
    go_wp2
    all_goals
      go_ret3
      refine ⟨?_, below_drewN hB1 _⟩
      simp [upLo, upHi] <;> omega

set_option maxHeartbeats 2000000 in
theorem implUnpack_no (E B L : Int) (w : World) (h : pokB E B L = false) :
    Calls Tryd.prog 48 #[.agg #[.int .i64 E, .int .i64 B, .int .i64 L]] w fun e w' => e = .returned (.tuple #[.int .i64 0, .int .i64 0, .bool false]) ∧ Below w.heap.size w w' := by
  have s1 := packedOk_any E B L
  rw [h] at s1
  have S1 : Hid _ := s1
  clear s1 h
  go_enter Tryd.func48, Tryd.ntmps48
  go_wp2_with fail
  refine (S1.out _).mono ?_
  rintro e w1 ⟨rfl, hb1⟩
  have hB1 : Below w.heap.size w w1 := ((Below.refl _ w).alloc (Nat.le_refl _) _).trans (hb1.mono (by simp))
  clear hb1
  go_wp2
  go_ret3
  exact ⟨rfl, hB1⟩

theorem specUnpack_any (E B L : Int) (w : World) :
    Calls Tryd.prog 41 #[.agg #[.int .i64 E, .int .i64 B, .int .i64 L]] w fun e w' => e = .returned (up E B L) ∧ Below w.heap.size w w' := by
  cases h : pokB E B L
  · simpa [up, h] using specUnpack_no E B L w h
  · simpa [up, h] using specUnpack_yes E B L w h

theorem implUnpack_any (E B L : Int) (w : World) :
    Calls Tryd.prog 48 #[.agg #[.int .i64 E, .int .i64 B, .int .i64 L]] w fun e w' => e = .returned (up E B L) ∧ Below w.heap.size w w' := by
  cases h : pokB E B L
  · simpa [up, h] using implUnpack_no E B L w h
  · simpa [up, h] using implUnpack_yes E B L w h
end Go.Proofs.YtpkhnajhamnggaaDoor
