/- InsOf of the specification and of the program at all numbers of 64 bits: both answer the same. -/
import Derived.Test.YtbfbbapongijeaaInsK
namespace Go.Proofs.Ytbfbbapongijeaa
open Go.ChangeShapes Go.WideShapes Go.ChangeAt Go.RowKit

/-- Whether n is the word of a place. -/
def iofB (n : Int) : Bool := decide (0 ≤ n) && iokB (n % 16) (n / 16 % 8) (n / 128 % 8) (n / 1024 % 8) (n / 8192 - 128)
/-- The fields of what InsOf answers. -/
def iofO (n : Int) : Int := bif iofB n then n % 16 else 0
def iofR (n : Int) : Int := bif iofB n then n / 16 % 8 else 0
def iofA (n : Int) : Int := bif iofB n then n / 128 % 8 else 0
def iofC (n : Int) : Int := bif iofB n then n / 1024 % 8 else 0
def iofN (n : Int) : Int := bif iofB n then n / 8192 - 128 else 0
theorem back_math {n : Int} (_h : 0 ≤ n) : w32Z (n % 16) (n / 16 % 8) (n / 128 % 8) (n / 1024 % 8) (n / 8192 - 128) = n := by
  unfold w32Z
  omega
theorem rem_neg {n : Int} (h : ¬ 0 ≤ n) : ¬ (1 ≤ n.tmod 16 ∧ n.tmod 16 ≤ 15) := by
  have := Int.neg_tmod (a := -n) (b := 16)
  rw [Int.neg_neg] at this
  rw [this, Int.tmod_eq_emod_of_nonneg (by omega)]
  omega

set_option maxRecDepth 100000 in
set_option maxHeartbeats 4000000 in
theorem specInsOf_any (n : Int) (hn : n ≤ 9223372036854775807) (w : World) :
    Calls Try.prog 16 #[.int .i64 n] w fun e w' => e = .returned (.tuple #[.agg #[.int .i64 (iofO n), .int .i64 (iofR n), .int .i64 (iofA n), .int .i64 (iofC n), .int .i64 (iofN n)], .bool (iofB n)]) ∧ Below w.heap.size w w' := by
  by_cases h : 0 ≤ n
  · have s1 := specWord32_any (n % 16) (n / 16 % 8) (n / 128 % 8) (n / 1024 % 8) (n / 8192 - 128)
    have hB : iofB n = iokB (n % 16) (n / 16 % 8) (n / 128 % 8) (n / 1024 % 8) (n / 8192 - 128) := by simp [iofB, h]
    unfold iofO iofR iofA iofC iofN
    rw [hB]
    rw [back_math h] at s1
    generalize iokB (n % 16) (n / 16 % 8) (n / 128 % 8) (n / 1024 % 8) (n / 8192 - 128) = y at s1 ⊢
    have S1 : Hid _ := s1
    clear s1 hB
    go_enter Try.func16, Try.ntmps16
    go_wp2_with fail
    refine (S1.out _).mono ?_
    rintro e w1 ⟨rfl, hb1⟩
    have K1 : Hid (Below w.heap.size w w1) := (((Below.refl _ w).alloc (Nat.le_refl _) _).alloc (by simp) _).trans (hb1.mono (by simp; omega))
    have Z1 := ((Five.new w 0 0 0 0 0 25).alloc _).below hb1
    have X1 := (Five.second w _ (n % 16) (n / 16 % 8) (n / 128 % 8) (n / 1024 % 8) (n / 8192 - 128) 25).below hb1
    obtain ⟨_, z0, z1, z2, z3, z4, g0, g1, g2, g3, g4⟩ := Z1
    obtain ⟨_, c0, c1, c2, c3, c4, _, _, _, _, _⟩ := X1
    clear hb1 S1
    cases y
    · go_wp2
      refine bodyPost_ret (v := .tuple #[.agg #[.int .i64 0, .int .i64 0, .int .i64 0, .int .i64 0, .int .i64 0], .bool false]) (by simp [results, Try.results16, go_sem, z0, z1, z2, z3, z4]) rfl ⟨rfl, ?_⟩
      repeat' (first | (with_reducible exact K1.out) | (refine Below.setCell ?_ (by show w.heap.size ≤ w.heap.size; exact Nat.le_refl _) _))
    · go_wp2
      refine bodyPost_ret (v := .tuple #[.agg #[.int .i64 (n % 16), .int .i64 (n / 16 % 8), .int .i64 (n / 128 % 8), .int .i64 (n / 1024 % 8), .int .i64 (n / 8192 - 128)], .bool true]) (by simp [results, Try.results16, go_sem, z0, z1, z2, z3, z4]) rfl ⟨rfl, ?_⟩
      repeat' (first | (with_reducible exact K1.out) | (refine Below.setCell ?_ (by show w.heap.size ≤ w.heap.size; exact Nat.le_refl _) _))
  · have hB : iofB n = false := by simp [iofB, h]
    unfold iofO iofR iofA iofC iofN
    rw [hB]
    clear hB
    go_enter Try.func16, Try.ntmps16
    go_wp2
    refine bodyPost_ret (v := .tuple #[.agg #[.int .i64 0, .int .i64 0, .int .i64 0, .int .i64 0, .int .i64 0], .bool false]) (by simp [results, Try.results16, go_sem]) rfl ⟨rfl, ?_⟩
    repeat (first | exact Below.refl _ _ | refine Below.alloc ?_ (by simp; try omega) _ | refine Below.setCell ?_ (by simp; try omega) _)

set_option maxRecDepth 100000 in
set_option maxHeartbeats 4000000 in
theorem implInsOf_any (n : Int) (hn : n ≤ 9223372036854775807) (w : World) :
    Calls Try.prog 14 #[.int .i64 n] w fun e w' => e = .returned (.tuple #[.agg #[.int .i64 (iofO n), .int .i64 (iofR n), .int .i64 (iofA n), .int .i64 (iofC n), .int .i64 (iofN n)], .bool (iofB n)]) ∧ Below w.heap.size w w' := by
  by_cases h : 0 ≤ n
  · have s1 := implInsOk_any (n % 16) (n / 16 % 8) (n / 128 % 8) (n / 1024 % 8) (n / 8192 - 128)
    have hB : iofB n = iokB (n % 16) (n / 16 % 8) (n / 128 % 8) (n / 1024 % 8) (n / 8192 - 128) := by simp [iofB, h]
    unfold iofO iofR iofA iofC iofN
    rw [hB]
    generalize iokB (n % 16) (n / 16 % 8) (n / 128 % 8) (n / 1024 % 8) (n / 8192 - 128) = y at s1 ⊢
    have S1 : Hid _ := s1
    clear s1 hB
    go_enter Try.func14, Try.ntmps14
    go_wp2_with fail
    refine (S1.out _).mono ?_
    rintro e w1 ⟨rfl, hb1⟩
    have K1 : Hid (Below w.heap.size w w1) := (((Below.refl _ w).alloc (Nat.le_refl _) _).alloc (by simp) _).trans (hb1.mono (by simp; omega))
    have Z1 := ((Five.new w 0 0 0 0 0 25).alloc _).below hb1
    have X1 := (Five.second w _ (n % 16) (n / 16 % 8) (n / 128 % 8) (n / 1024 % 8) (n / 8192 - 128) 25).below hb1
    obtain ⟨_, z0, z1, z2, z3, z4, g0, g1, g2, g3, g4⟩ := Z1
    obtain ⟨_, c0, c1, c2, c3, c4, _, _, _, _, _⟩ := X1
    clear hb1 S1
    cases y
    · go_wp2
      refine bodyPost_ret (v := .tuple #[.agg #[.int .i64 0, .int .i64 0, .int .i64 0, .int .i64 0, .int .i64 0], .bool false]) (by simp [results, Try.results14, go_sem, z0, z1, z2, z3, z4]) rfl ⟨rfl, ?_⟩
      repeat' (first | (with_reducible exact K1.out) | (refine Below.setCell ?_ (by show w.heap.size ≤ w.heap.size; exact Nat.le_refl _) _))
    · go_wp2
      refine bodyPost_ret (v := .tuple #[.agg #[.int .i64 (n % 16), .int .i64 (n / 16 % 8), .int .i64 (n / 128 % 8), .int .i64 (n / 1024 % 8), .int .i64 (n / 8192 - 128)], .bool true]) (by simp [results, Try.results14, go_sem, z0, z1, z2, z3, z4]) rfl ⟨rfl, ?_⟩
      repeat' (first | (with_reducible exact K1.out) | (refine Below.setCell ?_ (by show w.heap.size ≤ w.heap.size; exact Nat.le_refl _) _))
  · have hB : iofB n = false := by simp [iofB, h]
    unfold iofO iofR iofA iofC iofN
    rw [hB]
    have s1 := fun r a b m => implInsOk_any (n.tmod 16) r a b m
    simp only [iok_none (rem_neg h)] at s1
    have S1 : Hid _ := s1
    clear hB s1
    go_enter Try.func14, Try.ntmps14
    go_wp2_with fail
    refine (S1.out _ _ _ _ _).mono ?_
    rintro e w1 ⟨rfl, hb1⟩
    have K1 : Hid (Below w.heap.size w w1) := (((Below.refl _ w).alloc (Nat.le_refl _) _).alloc (by simp) _).trans (hb1.mono (by simp; omega))
    have Z1 := ((Five.new w 0 0 0 0 0 25).alloc _).below hb1
    obtain ⟨_, z0, z1, z2, z3, z4, g0, g1, g2, g3, g4⟩ := Z1
    clear hb1 S1
    go_wp2
    refine bodyPost_ret (v := .tuple #[.agg #[.int .i64 0, .int .i64 0, .int .i64 0, .int .i64 0, .int .i64 0], .bool false]) (by simp [results, Try.results14, go_sem, z0, z1, z2, z3, z4]) rfl ⟨rfl, ?_⟩
    repeat' (first | (with_reducible exact K1.out) | (refine Below.setCell ?_ (by show w.heap.size ≤ w.heap.size; exact Nat.le_refl _) _))
end Go.Proofs.Ytbfbbapongijeaa
