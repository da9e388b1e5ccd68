/- InsOk and Word32 of the program at all places, as the specification's; InsOf of both at all numbers. No condition. -/
import Derived.Test.YtpkhnajhamnggaaDoorInsJ
namespace Go.Proofs.YtpkhnajhamnggaaDoor
open Go.ChangeShapes Go.WideShapes Go.ChangeAt Go.RowKit

theorem iok_none {o r a b n : Int} (h : ¬ (1 ≤ o ∧ o ≤ 15)) : iokB o r a b n = false := by simp [iokB, decide_eq_false h]

theorem iok_gen (o r a b n : Int) (h : 1 ≤ o ∧ o ≤ 15) (q0 q1 q2 q3 : Bool) (h0 : bitB o 1 = q0) (h1 : bitB o 2 = q1) (h2 : bitB o 4 = q2) (h3 : bitB o 8 = q3) :
    iokB o r a b n = (eqB o (bif q0 then r else 0) (bif q1 then a else 0) (bif q2 then b else 0) (bif q3 then n else 0) o r a b n && fitB r a b n) := by
  rw [Bool.eq_iff_iff]
  cases q0 <;> cases q1 <;> cases q2 <;> cases q3 <;>
    simp only [iokB, eqB, fitB, fldB, h0, h1, h2, h3, Bool.and_eq_true, Bool.or_eq_true, decide_eq_true_eq, beq_iff_eq, Bool.false_eq_true, eq_self, true_or, false_or, true_and, and_true, cond_true, cond_false] <;> omega
theorem iok_1 (r a b n : Int) : iokB 1 r a b n = (eqB 1 r 0 0 n 1 r a b n && fitB r a b n) := iok_gen 1 r a b n (by decide) true false false true (by decide) (by decide) (by decide) (by decide)
theorem iok_2 (r a b n : Int) : iokB 2 r a b n = (eqB 2 r a b 0 2 r a b n && fitB r a b n) := iok_gen 2 r a b n (by decide) true true true false (by decide) (by decide) (by decide) (by decide)
theorem iok_3 (r a b n : Int) : iokB 3 r a b n = (eqB 3 r a 0 0 3 r a b n && fitB r a b n) := iok_gen 3 r a b n (by decide) true true false false (by decide) (by decide) (by decide) (by decide)
theorem iok_4 (r a b n : Int) : iokB 4 r a b n = (eqB 4 r a b 0 4 r a b n && fitB r a b n) := iok_gen 4 r a b n (by decide) true true true false (by decide) (by decide) (by decide) (by decide)
theorem iok_5 (r a b n : Int) : iokB 5 r a b n = (eqB 5 r a b 0 5 r a b n && fitB r a b n) := iok_gen 5 r a b n (by decide) true true true false (by decide) (by decide) (by decide) (by decide)
theorem iok_6 (r a b n : Int) : iokB 6 r a b n = (eqB 6 r a b n 6 r a b n && fitB r a b n) := iok_gen 6 r a b n (by decide) true true true true (by decide) (by decide) (by decide) (by decide)
theorem iok_7 (r a b n : Int) : iokB 7 r a b n = (eqB 7 r a b 0 7 r a b n && fitB r a b n) := iok_gen 7 r a b n (by decide) true true true false (by decide) (by decide) (by decide) (by decide)
theorem iok_8 (r a b n : Int) : iokB 8 r a b n = (eqB 8 r a b 0 8 r a b n && fitB r a b n) := iok_gen 8 r a b n (by decide) true true true false (by decide) (by decide) (by decide) (by decide)
theorem iok_9 (r a b n : Int) : iokB 9 r a b n = (eqB 9 r a 0 0 9 r a b n && fitB r a b n) := iok_gen 9 r a b n (by decide) true true false false (by decide) (by decide) (by decide) (by decide)
theorem iok_10 (r a b n : Int) : iokB 10 r a b n = (eqB 10 r a 0 n 10 r a b n && fitB r a b n) := iok_gen 10 r a b n (by decide) true true false true (by decide) (by decide) (by decide) (by decide)
theorem iok_11 (r a b n : Int) : iokB 11 r a b n = (eqB 11 0 a b n 11 r a b n && fitB r a b n) := iok_gen 11 r a b n (by decide) false true true true (by decide) (by decide) (by decide) (by decide)
theorem iok_12 (r a b n : Int) : iokB 12 r a b n = (eqB 12 r a 0 0 12 r a b n && fitB r a b n) := iok_gen 12 r a b n (by decide) true true false false (by decide) (by decide) (by decide) (by decide)
theorem iok_13 (r a b n : Int) : iokB 13 r a b n = (eqB 13 0 a 0 n 13 r a b n && fitB r a b n) := iok_gen 13 r a b n (by decide) false true false true (by decide) (by decide) (by decide) (by decide)
theorem iok_14 (r a b n : Int) : iokB 14 r a b n = (eqB 14 0 a 0 0 14 r a b n && fitB r a b n) := iok_gen 14 r a b n (by decide) false true false false (by decide) (by decide) (by decide) (by decide)
theorem iok_15 (r a b n : Int) : iokB 15 r a b n = (eqB 15 0 0 0 0 15 r a b n && fitB r a b n) := iok_gen 15 r a b n (by decide) false false false false (by decide) (by decide) (by decide) (by decide)

set_option maxRecDepth 100000 in
set_option maxHeartbeats 4000000 in
theorem implInsOk_any (o r a b n : Int) (w : World) :
    Calls Tryd.prog 22 #[.agg #[.int .i64 o, .int .i64 r, .int .i64 a, .int .i64 b, .int .i64 n]] w fun e w' => e = .returned (.bool (iokB o r a b n)) ∧ Below w.heap.size w w' := by
  have hp := placeOf_any o r a b n
  by_cases h : 1 ≤ o ∧ o ≤ 15
  · rcases op_cases h with rfl | rfl | rfl | rfl | rfl | rfl | rfl | rfl | rfl | rfl | rfl | rfl | rfl | rfl | rfl
    · rw [show iokB 1 r a b n = (eqB 1 r 0 0 n 1 r a b n && fitB r a b n) from iok_1 r a b n]; exact insOk_number 1 r a b n hp w
    · rw [show iokB 2 r a b n = (eqB 2 r a b 0 2 r a b n && fitB r a b n) from iok_2 r a b n]; exact insOk_two 2 r a b n hp w
    · rw [show iokB 3 r a b n = (eqB 3 r a 0 0 3 r a b n && fitB r a b n) from iok_3 r a b n]; exact insOk_one 3 r a b n hp w
    · rw [show iokB 4 r a b n = (eqB 4 r a b 0 4 r a b n && fitB r a b n) from iok_4 r a b n]; exact insOk_two 4 r a b n hp w
    · rw [show iokB 5 r a b n = (eqB 5 r a b 0 5 r a b n && fitB r a b n) from iok_5 r a b n]; exact insOk_two 5 r a b n hp w
    · rw [show iokB 6 r a b n = (eqB 6 r a b n 6 r a b n && fitB r a b n) from iok_6 r a b n]; exact insOk_point 6 r a b n hp w
    · rw [show iokB 7 r a b n = (eqB 7 r a b 0 7 r a b n && fitB r a b n) from iok_7 r a b n]; exact insOk_two 7 r a b n hp w
    · rw [show iokB 8 r a b n = (eqB 8 r a b 0 8 r a b n && fitB r a b n) from iok_8 r a b n]; exact insOk_two 8 r a b n hp w
    · rw [show iokB 9 r a b n = (eqB 9 r a 0 0 9 r a b n && fitB r a b n) from iok_9 r a b n]; exact insOk_one 9 r a b n hp w
    · rw [show iokB 10 r a b n = (eqB 10 r a 0 n 10 r a b n && fitB r a b n) from iok_10 r a b n]; exact insOk_load 10 r a b n hp w
    · rw [show iokB 11 r a b n = (eqB 11 0 a b n 11 r a b n && fitB r a b n) from iok_11 r a b n]; exact insOk_store 11 r a b n hp w
    · rw [show iokB 12 r a b n = (eqB 12 r a 0 0 12 r a b n && fitB r a b n) from iok_12 r a b n]; exact insOk_one 12 r a b n hp w
    · rw [show iokB 13 r a b n = (eqB 13 0 a 0 n 13 r a b n && fitB r a b n) from iok_13 r a b n]; exact insOk_zero 13 r a b n hp w
    · rw [show iokB 14 r a b n = (eqB 14 0 a 0 0 14 r a b n && fitB r a b n) from iok_14 r a b n]; exact insOk_gone 14 r a b n hp w
    · rw [show iokB 15 r a b n = (eqB 15 0 0 0 0 15 r a b n && fitB r a b n) from iok_15 r a b n]; exact insOk_halt 15 r a b n hp w
  · rw [decide_eq_false h] at hp
    rw [iok_none h]
    generalize plcV o r a b n = v at hp
    have HP : Hid _ := hp
    clear hp
    have hu : undef = Value.tuple #[] := rfl
    go_enter Tryd.func22, Tryd.ntmps22
    go_wp2_with fail
    refine (HP.out _).mono ?_
    rintro e w1 ⟨rfl, hb1⟩
    have K1 : Hid (Below w.heap.size w w1) := ((Below.refl _ w).alloc (Nat.le_refl _) _).trans (hb1.mono (by simp))
    clear hb1 HP
    go_wp2_with fail
    go_quiet (fail)
    go_wp2
    go_ret
    exact ⟨rfl, below_drewN K1.out _⟩

end Go.Proofs.YtpkhnajhamnggaaDoor
