/- Try of the specification and of the program, at all words and ints: what it answers. The program's in a world that holds its four errors. -/
import Derived.Test.YtpkhnajhamnggaaDoorTryS
import Derived.Test.YtpkhnajhamnggaaDoorSent
import Derived.Test.YtpkhnajhamnggaaDoorIs
namespace Go.Proofs.YtpkhnajhamnggaaDoor
open Go.ChangeShapes Go.WideShapes Go.ChangeAt Go.RowKit

/-- The error that tried answers. -/
def errV (a0 a1 a2 a3 : Addr) (c0 c1 c2 c3 : Bool) : Value :=
  bif c0 then (bif c1 then .iface 113 (.pointer (some a1)) else bif c2 then (bif c3 then .nilIface else .iface 113 (.pointer (some a3))) else .iface 113 (.pointer (some a2))) else .iface 113 (.pointer (some a0))

set_option maxHeartbeats 1000000 in
theorem trapOf_0 (a0 a1 a2 a3 : Addr) (w : World) (h : Errs a0 a1 a2 a3 w) :
    Calls Tryd.prog 24 #[.iface 113 (.pointer (some a0))] w fun e w' => e = .returned (.int .i64 1) ∧ w' = w := by
  obtain ⟨g0, g1, g2, g3, n01, n02, n03, n12, n13, n23, ⟨x0, t0, r0⟩, ⟨x1, t1, r1⟩, ⟨x2, t2, r2⟩, ⟨x3, t3, r3⟩⟩ := h
  go_enter Tryd.func24, Tryd.ntmps24
  go_wp2_with fail
  refine (is_same a0 _).mono ?_
  rintro e w' ⟨rfl, rfl⟩
  go_wp2
  go_ret
  exact ⟨rfl, rfl⟩
set_option maxHeartbeats 1000000 in
theorem trapOf_1 (a0 a1 a2 a3 : Addr) (w : World) (h : Errs a0 a1 a2 a3 w) :
    Calls Tryd.prog 24 #[.iface 113 (.pointer (some a1))] w fun e w' => e = .returned (.int .i64 2) ∧ w' = w := by
  obtain ⟨g0, g1, g2, g3, n01, n02, n03, n12, n13, n23, ⟨x0, t0, r0⟩, ⟨x1, t1, r1⟩, ⟨x2, t2, r2⟩, ⟨x3, t3, r3⟩⟩ := h
  go_enter Tryd.func24, Tryd.ntmps24
  go_wp2_with fail
  refine (is_other a1 a0 _ _ _ _ _ n01.symm r1 r0).mono ?_
  rintro e w' ⟨rfl, rfl⟩
  go_wp2_with fail
  refine (is_same a1 _).mono ?_
  rintro e w' ⟨rfl, rfl⟩
  go_wp2
  go_ret
  exact ⟨rfl, rfl⟩
set_option maxHeartbeats 1000000 in
theorem trapOf_2 (a0 a1 a2 a3 : Addr) (w : World) (h : Errs a0 a1 a2 a3 w) :
    Calls Tryd.prog 24 #[.iface 113 (.pointer (some a2))] w fun e w' => e = .returned (.int .i64 3) ∧ w' = w := by
  obtain ⟨g0, g1, g2, g3, n01, n02, n03, n12, n13, n23, ⟨x0, t0, r0⟩, ⟨x1, t1, r1⟩, ⟨x2, t2, r2⟩, ⟨x3, t3, r3⟩⟩ := h
  go_enter Tryd.func24, Tryd.ntmps24
  go_wp2_with fail
  refine (is_other a2 a0 _ _ _ _ _ n02.symm r2 r0).mono ?_
  rintro e w' ⟨rfl, rfl⟩
  go_wp2_with fail
  refine (is_other a2 a1 _ _ _ _ _ n12.symm r2 r1).mono ?_
  rintro e w' ⟨rfl, rfl⟩
  go_wp2_with fail
  refine (is_same a2 _).mono ?_
  rintro e w' ⟨rfl, rfl⟩
  go_wp2
  go_ret
  exact ⟨rfl, rfl⟩
set_option maxHeartbeats 1000000 in
theorem trapOf_3 (a0 a1 a2 a3 : Addr) (w : World) (h : Errs a0 a1 a2 a3 w) :
    Calls Tryd.prog 24 #[.iface 113 (.pointer (some a3))] w fun e w' => e = .returned (.int .i64 4) ∧ w' = w := by
  obtain ⟨g0, g1, g2, g3, n01, n02, n03, n12, n13, n23, ⟨x0, t0, r0⟩, ⟨x1, t1, r1⟩, ⟨x2, t2, r2⟩, ⟨x3, t3, r3⟩⟩ := h
  go_enter Tryd.func24, Tryd.ntmps24
  go_wp2_with fail
  refine (is_other a3 a0 _ _ _ _ _ n03.symm r3 r0).mono ?_
  rintro e w' ⟨rfl, rfl⟩
  go_wp2_with fail
  refine (is_other a3 a1 _ _ _ _ _ n13.symm r3 r1).mono ?_
  rintro e w' ⟨rfl, rfl⟩
  go_wp2_with fail
  refine (is_other a3 a2 _ _ _ _ _ n23.symm r3 r2).mono ?_
  rintro e w' ⟨rfl, rfl⟩
  go_wp2_with fail
  refine (is_same a3 _).mono ?_
  rintro e w' ⟨rfl, rfl⟩
  go_wp2
  go_ret
  exact ⟨rfl, rfl⟩
set_option maxHeartbeats 1000000 in
theorem trapOf_4 (a0 a1 a2 a3 : Addr) (w : World) (h : Errs a0 a1 a2 a3 w) :
    Calls Tryd.prog 24 #[.nilIface] w fun e w' => e = .returned (.int .i64 0) ∧ w' = w := by
  obtain ⟨g0, g1, g2, g3, n01, n02, n03, n12, n13, n23, ⟨x0, t0, r0⟩, ⟨x1, t1, r1⟩, ⟨x2, t2, r2⟩, ⟨x3, t3, r3⟩⟩ := h
  go_enter Tryd.func24, Tryd.ntmps24
  go_wp2_with fail
  refine (is_nil a0 _).mono ?_
  rintro e w' ⟨rfl, rfl⟩
  go_wp2_with fail
  refine (is_nil a1 _).mono ?_
  rintro e w' ⟨rfl, rfl⟩
  go_wp2_with fail
  refine (is_nil a2 _).mono ?_
  rintro e w' ⟨rfl, rfl⟩
  go_wp2_with fail
  refine (is_nil a3 _).mono ?_
  rintro e w' ⟨rfl, rfl⟩
  go_wp2
  go_ret
  exact ⟨rfl, rfl⟩

theorem trapOf_any (a0 a1 a2 a3 : Addr) (c0 c1 c2 c3 : Bool) (w : World) (h : Errs a0 a1 a2 a3 w) :
    Calls Tryd.prog 24 #[errV a0 a1 a2 a3 c0 c1 c2 c3] w fun e w' => e = .returned (.int .i64 (trapZ c0 c1 c2 c3)) ∧ w' = w := by
  cases c0
  · exact trapOf_0 a0 a1 a2 a3 w h
  cases c1
  case true => exact trapOf_1 a0 a1 a2 a3 w h
  cases c2
  · exact trapOf_2 a0 a1 a2 a3 w h
  cases c3
  · exact trapOf_3 a0 a1 a2 a3 w h
  · exact trapOf_4 a0 a1 a2 a3 w h

set_option maxRecDepth 100000 in
set_option maxHeartbeats 2000000 in
theorem tried_any (a0 a1 a2 a3 : Addr) (n : Int) (i : Bool) (b t p s m q : Int) (w : World) (h : Errs a0 a1 a2 a3 w) :
    Calls Tryd.prog 25 #[.agg #[.int .i64 n, .bool i, .int .i64 b, .int .i64 t, .int .i64 p, .int .i64 s], .int .i64 m, .int .i64 q] w fun e w' => e = .returned (errV a0 a1 a2 a3 (rkB n i b t p s) (s != 0) (bits .and .i64 p q == q) (decide (b ≤ m ∧ m < t))) ∧ Below w.heap.size w w' := by
  have s1 := rightKey_any n i b t p s
  have s2 := sealed_any b t p s
  have s3 := has_any b t p s q
  have s4 := opens_any b t p s m
  generalize rkB n i b t p s = x at s1 ⊢
  generalize (s != 0) = y at s2 ⊢
  generalize (bits .and .i64 p q == q) = z at s3 ⊢
  generalize decide (b ≤ m ∧ m < t) = v at s4 ⊢
  have S1 : Hid _ := s1
  have S2 : Hid _ := s2
  have S3 : Hid _ := s3
  have S4 : Hid _ := s4
  have E0 : Hid _ := h.below ((Below.refl _ w).alloc (Nat.le_refl _) (.cells #[.int .i64 n, .bool i, .int .i64 b, .int .i64 t, .int .i64 p, .int .i64 s] 36))
  clear s1 s2 s3 s4 h
  go_enter Tryd.func25, Tryd.ntmps25
  go_wp2_with fail
  refine (S1.out _).mono ?_
  rintro e w1 ⟨rfl, hb1⟩
  have A1 : Hid _ := (Six.new w n i b t p s 36).below hb1
  have E1 : Hid _ := E0.out.below hb1
  have K1 : Hid (Below w.heap.size w w1) := ((Below.refl _ w).alloc (Nat.le_refl _) _).trans (hb1.mono (by simp))
  clear hb1 S1 E0
  cases x
  · have g := E1.out.g0
    go_wp2
    go_ret
    exact ⟨rfl, K1.out⟩
  obtain ⟨_, c0, c1, c2, c3, c4, c5, _, _, _, _, _, _⟩ := A1.out
  go_wp2_with fail
  refine (S2.out _).mono ?_
  rintro e w2 ⟨rfl, hb2⟩
  have A2 : Hid _ := A1.out.below hb2
  have E2 : Hid _ := E1.out.below hb2
  have K2 : Hid (Below w.heap.size w w2) := K1.out.trans (hb2.mono K1.out.size)
  clear hb2 A1 E1 K1 S2 c0 c1 c2 c3 c4 c5
  cases y
  case true =>
    have g := E2.out.g1
    go_wp2
    go_ret
    exact ⟨rfl, K2.out⟩
  obtain ⟨_, c0, c1, c2, c3, c4, c5, _, _, _, _, _, _⟩ := A2.out
  go_wp2_with fail
  refine (S3.out _).mono ?_
  rintro e w3 ⟨rfl, hb3⟩
  have A3 : Hid _ := A2.out.below hb3
  have E3 : Hid _ := E2.out.below hb3
  have K3 : Hid (Below w.heap.size w w3) := K2.out.trans (hb3.mono K2.out.size)
  clear hb3 A2 E2 K2 S3 c0 c1 c2 c3 c4 c5
  cases z
  case false =>
    have g := E3.out.g2
    go_wp2
    go_ret
    exact ⟨rfl, K3.out⟩
  obtain ⟨_, c0, c1, c2, c3, c4, c5, _, _, _, _, _, _⟩ := A3.out
  go_wp2_with fail
  refine (S4.out _).mono ?_
  rintro e w4 ⟨rfl, hb4⟩
  have A4 : Hid _ := A3.out.below hb4
  have E4 : Hid _ := E3.out.below hb4
  have K4 : Hid (Below w.heap.size w w4) := K3.out.trans (hb4.mono K3.out.size)
  clear hb4 A3 E3 K3 S4 c0 c1 c2 c3 c4 c5
  cases v
  case false =>
    have g := E4.out.g3
    go_wp2
    go_ret
    exact ⟨rfl, K4.out⟩
  go_wp2
  go_ret
  exact ⟨rfl, K4.out⟩

set_option maxRecDepth 100000 in
set_option maxHeartbeats 1000000 in
theorem implTry_any (a0 a1 a2 a3 : Addr) (n : Int) (i : Bool) (b t p s m q : Int) (w : World) (h : Errs a0 a1 a2 a3 w) :
    Calls Tryd.prog 20 #[.agg #[.int .i64 n, .bool i, .int .i64 b, .int .i64 t, .int .i64 p, .int .i64 s], .int .i64 m, .int .i64 q] w fun e w' => e = .returned (.int .i64 (tryZ n i b t p s m q)) ∧ Below w.heap.size w w' := by
  have s1 := tried_any a0 a1 a2 a3 n i b t p s m q
  have s2 := trapOf_any a0 a1 a2 a3 (rkB n i b t p s) (s != 0) (bits .and .i64 p q == q) (decide (b ≤ m ∧ m < t))
  obtain ⟨z, hz⟩ : ∃ z, Hid (z = tryZ n i b t p s m q) := ⟨_, rfl⟩
  rw [show trapZ (rkB n i b t p s) (s != 0) (bits .and .i64 p q == q) (decide (b ≤ m ∧ m < t)) = z from hz.out.symm] at s2
  rw [← hz.out]
  generalize errV a0 a1 a2 a3 (rkB n i b t p s) (s != 0) (bits .and .i64 p q == q) (decide (b ≤ m ∧ m < t)) = e at s1 s2
  have S1 : Hid _ := s1
  have S2 : Hid _ := s2
  have E0 : Hid _ := h.below ((Below.refl _ w).alloc (Nat.le_refl _) (.cells #[.int .i64 n, .bool i, .int .i64 b, .int .i64 t, .int .i64 p, .int .i64 s] 36))
  clear s1 s2 h hz
  go_enter Tryd.func20, Tryd.ntmps20
  go_wp2_with fail
  refine (S1.out _ E0.out).mono ?_
  rintro e1 w1 ⟨rfl, hb1⟩
  have E1 : Hid _ := E0.out.below hb1
  have K1 : Hid (Below w.heap.size w w1) := ((Below.refl _ w).alloc (Nat.le_refl _) _).trans (hb1.mono (by simp))
  clear hb1 S1 E0
  go_wp2_with fail
  refine (S2.out _ E1.out).mono ?_
  rintro e2 w2 ⟨rfl, rfl⟩
  go_wp2
  go_ret
  exact ⟨rfl, K1.out⟩
end Go.Proofs.YtpkhnajhamnggaaDoor
