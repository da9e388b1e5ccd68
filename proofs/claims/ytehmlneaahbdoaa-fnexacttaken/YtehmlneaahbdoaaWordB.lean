/- Plain and Bare of both sides and the method has, at all words (the part of WordX and KeyX that a small seat has). No condition. -/
import Derived.Test.YtehmlneaahbdoaaWord
namespace Go.Proofs.Ytehmlneaahbdoaa
open Go.ChangeShapes Go.WideShapes Go.ChangeAt Go.RowKit

set_option maxHeartbeats 400000 in
theorem has_any (b t p s x : Int) (w : World) :
    Calls Try.prog 13 #[.agg #[.int .i64 b, .int .i64 t, .int .i64 p, .int .i64 s], .int .i64 x] w fun e w' => e = .returned (.bool (bits .and .i64 p x == x)) ∧ Below w.heap.size w w' := by
  go_enter Try.func13, Try.ntmps13
  go_wp2
  go_ret
  exact ⟨rfl, (Below.refl _ _).alloc (Nat.le_refl _) _⟩

set_option maxHeartbeats 400000 in
theorem implPlain_any (n : Int) (w : World) :
    Calls Try.prog 17 #[.int .i64 n] w fun e w' => e = .returned (.agg #[.int .i64 (n % 65536), .bool false, .int .i64 0, .int .i64 0, .int .i64 0, .int .i64 0]) ∧ Below w.heap.size w w' := by
  have s1 := leftBy_any n
  obtain ⟨m, hm⟩ : ∃ m, Hid (m = n % 65536) := ⟨_, rfl⟩
  rw [← hm.out] at s1 ⊢
  have S1 : Hid _ := s1
  clear s1
  go_enter Try.func17, Try.ntmps17
  go_wp2_with fail
  refine (S1.out _).mono ?_
  rintro e w1 ⟨rfl, rfl⟩
  go_wp2
  refine bodyPost_ret (v := .agg #[.int .i64 m, .bool false, .int .i64 0, .int .i64 0, .int .i64 0, .int .i64 0]) (by simp [results, Try.results17, go_sem]) rfl ⟨rfl, ?_⟩
  repeat' (first | (with_reducible exact Below.refl _ _) | (refine Below.alloc ?_ (by simp; try omega) _) | (refine Below.setCell ?_ (by show w.heap.size ≤ _; dsimp only; omega) _))

set_option maxHeartbeats 1000000 in
theorem specBare_any (n : Int) (i : Bool) (b t p s : Int) (w : World) :
    Calls Try.prog 11 #[.agg #[.int .i64 n, .bool i, .int .i64 b, .int .i64 t, .int .i64 p, .int .i64 s]] w fun e w' => e = .returned (.agg #[.int .i64 (n % 65536), .bool false, .int .i64 0, .int .i64 0, .int .i64 0, .int .i64 0]) ∧ Below w.heap.size w w' := by
  have s1 := specPlain_any n
  obtain ⟨m, hm⟩ : ∃ m, Hid (m = n % 65536) := ⟨_, rfl⟩
  rw [← hm.out] at s1 ⊢
  have S1 : Hid _ := s1
  clear s1
  go_enter Try.func11, Try.ntmps11
  go_wp2_with fail
  refine (S1.out _).mono ?_
  rintro e w1 ⟨rfl, hb1⟩
  have A1 := (Six.second w _ 0 false 0 0 0 0 28).below hb1
  have K1 : Hid (Below w.heap.size w w1) := (((Below.refl _ w).alloc (Nat.le_refl _) _).alloc (by simp) _).trans (hb1.mono (by simp; omega))
  obtain ⟨_, c0, c1, c2, c3, c4, c5, f0, f1, f2, f3, f4, f5⟩ := A1
  clear hb1
  go_wp2
  refine bodyPost_ret (v := .agg #[.int .i64 m, .bool false, .int .i64 0, .int .i64 0, .int .i64 0, .int .i64 0]) (by simp [results, Try.results11, go_sem, c0, c1, c2, c3, c4, c5]) rfl ⟨rfl, ?_⟩
  repeat' (first | (with_reducible exact K1.out) | (refine Below.setCell ?_ (by show w.heap.size ≤ _; dsimp only; omega) _))

set_option maxHeartbeats 1000000 in
theorem implBare_any (n : Int) (i : Bool) (b t p s : Int) (w : World) :
    Calls Try.prog 14 #[.agg #[.int .i64 n, .bool i, .int .i64 b, .int .i64 t, .int .i64 p, .int .i64 s]] w fun e w' => e = .returned (.agg #[.int .i64 (n % 65536), .bool false, .int .i64 0, .int .i64 0, .int .i64 0, .int .i64 0]) ∧ Below w.heap.size w w' := by
  have s1 := implPlain_any n
  obtain ⟨m, hm⟩ : ∃ m, Hid (m = n % 65536) := ⟨_, rfl⟩
  rw [← hm.out] at s1 ⊢
  have S1 : Hid _ := s1
  clear s1
  go_enter Try.func14, Try.ntmps14
  go_wp2_with fail
  refine (S1.out _).mono ?_
  rintro e w1 ⟨rfl, hb1⟩
  have A1 := (Six.second w _ 0 false 0 0 0 0 28).below hb1
  have K1 : Hid (Below w.heap.size w w1) := (((Below.refl _ w).alloc (Nat.le_refl _) _).alloc (by simp) _).trans (hb1.mono (by simp; omega))
  obtain ⟨_, c0, c1, c2, c3, c4, c5, f0, f1, f2, f3, f4, f5⟩ := A1
  clear hb1
  go_wp2
  refine bodyPost_ret (v := .agg #[.int .i64 m, .bool false, .int .i64 0, .int .i64 0, .int .i64 0, .int .i64 0]) (by simp [results, Try.results14, go_sem, c0, c1, c2, c3, c4, c5]) rfl ⟨rfl, ?_⟩
  repeat' (first | (with_reducible exact K1.out) | (refine Below.setCell ?_ (by show w.heap.size ≤ _; dsimp only; omega) _))
end Go.Proofs.Ytehmlneaahbdoaa
