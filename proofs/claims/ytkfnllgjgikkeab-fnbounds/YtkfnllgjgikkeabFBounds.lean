/- FnBounds at every code: the walk. -/
import Derived.Test.YtkfnllgjgikkeabDrawB
import Derived.Test.YtkfnllgjgikkeabDrawU
import Derived.Test.YtkfnllgjgikkeabBMath
namespace Go.Proofs.Ytkfnllgjgikkeab
open Go.ChangeShapes Go.WideShapes Go.ChangeAt Go.RowKit

theorem neq_same (E B L : Int) (w : World) : (binOp .neq 27 (.agg #[.int .i64 E, .int .i64 B, .int .i64 L]) (.agg #[.int .i64 E, .int .i64 B, .int .i64 L])).run Try.prog w = .ok (.bool false) w := by
  rw [run_neq_struct, equalIn_packed]; simp [Result.andThen]
theorem equalIn_same (E B L : Int) (w : World) : (Op.equalIn 10000 27 (.agg #[.int .i64 E, .int .i64 B, .int .i64 L]) (.agg #[.int .i64 E, .int .i64 B, .int .i64 L])).run Try.prog w = .ok true w := by
  rw [equalIn_packed]; simp

set_option maxHeartbeats 400000 in
theorem big_any (a : Option Addr) (len cap : Nat) (_h : len ≤ maxLen) (w : World) :
    Calls Try.prog 4 #[.slice a len cap] w fun e w' => e = .returned (.bool (decide ((1048576 : Int) < len))) ∧ w' = w := by
  unfold maxLen at _h
  go_enter Try.func4, Try.ntmps4
  go_wp2
  go_ret
  exact ⟨rfl, rfl⟩

set_option maxRecDepth 100000 in
set_option maxHeartbeats 4000000 in
theorem fnBounds_walk (a : Option Addr) (len cap : Nat) (w : World) (hc : Code8 w.heap.size w a len) :
    Calls Try.prog 3 #[.slice a len cap] w fun e w' => e = .returned (.bool true) ∧ Below w.heap.size w w' := by
  have C : Hid (Code8 w.heap.size w a len) := hc
  have sb := big_any a len cap hc.1
  clear hc
  cases hbig : decide ((1048576 : Int) < len)
  case true =>
    rw [hbig] at sb
    have SB : Hid _ := sb
    clear sb hbig
    go_enter Try.func3, Try.ntmps3
    go_wp2_with fail
    refine (SB.out _).mono ?_
    rintro e w0 ⟨rfl, rfl⟩
    go_wp2
    go_ret
    exact ⟨rfl, Below.refl _ _⟩
  case false =>
    rw [hbig] at sb
    have SB : Hid _ := sb
    clear sb hbig
    have eg := eg_packed
    have n1 := neq_same
    have n2 := equalIn_same
    go_enter Try.func3, Try.ntmps3
    go_wp2_with fail
    refine (SB.out _).mono ?_
    rintro e w0 ⟨rfl, hw0⟩
    subst w0
    clear SB
    go_wp2_with fail
    refine (drawPack_any C.out).mono ?_
    rintro e w1 ⟨a1, b1, rfl, _, _, _, _, k1⟩
    have K1 : Hid _ := k1
    have z1 := k1.size
    clear k1
    obtain ⟨E, B, L, ok, hp⟩ : ∃ E B L ok, pk a1 b1 = (E, B, L, ok) := ⟨_, _, _, _, rfl⟩
    have s1 := implPack_any a1 b1
    have s2 := specPack_any a1 b1
    simp only [hp, pkV] at s1 s2
    have S1 : Hid _ := s1
    have S2 : Hid _ := s2
    clear s1 s2 hp
    go_wp2_with fail
    refine (S1.out _).mono ?_
    rintro e w2 ⟨rfl, k2⟩
    have K2 : Hid (Below w.heap.size w w2) := K1.out.trans (k2.mono z1)
    have z2 := K2.out.size
    clear k2 K1 z1
    go_wp2_with fail
    refine (S2.out _).mono ?_
    rintro e w3 ⟨rfl, k3⟩
    have K3 : Hid (Below w.heap.size w w3) := (K2.out.alloc z2 _).trans (k3.mono (by simp; omega))
    have T3 : Three w3 w2.heap.size E B L := (Three.new w2 E B L 27).keep (q := w3.heap.size) (KeepBut.ofBelow k3) (by have := k3.size; simp at this; omega)
    obtain ⟨l3, c0, c1, c2, _, _, _⟩ := T3
    have q0 : ∀ O, (w3.alloc O).cell? ⟨w2.heap.size, 0, none⟩ = some (.int .i64 E) := fun O => (((Below.refl _ w3).alloc (Nat.le_refl _) O).cell (p := ⟨w2.heap.size, 0, none⟩) l3).trans c0
    have q1 : ∀ O, (w3.alloc O).cell? ⟨w2.heap.size, 1, none⟩ = some (.int .i64 B) := fun O => (((Below.refl _ w3).alloc (Nat.le_refl _) O).cell (p := ⟨w2.heap.size, 1, none⟩) l3).trans c1
    have q2 : ∀ O, (w3.alloc O).cell? ⟨w2.heap.size, 2, none⟩ = some (.int .i64 L) := fun O => (((Below.refl _ w3).alloc (Nat.le_refl _) O).cell (p := ⟨w2.heap.size, 2, none⟩) l3).trans c2
    have z3 := K3.out.size
    clear k3 K2 z2 c0 c1 c2 S1 S2
    have bb : ∀ b : Bool, (b != b) = false := by decide
    obtain ⟨o1, t1⟩ : ∃ o1, o1 = bokB a1 b1 := ⟨_, rfl⟩
    have s3 := implBounds_any a1 b1
    have s4 := specBounds_any a1 b1
    rw [← t1] at s3 s4
    have S3 : Hid _ := s3
    have S4 : Hid _ := s4
    clear s3 s4 t1
    go_wp2_with fail
    refine (S3.out _).mono ?_
    rintro e w4 ⟨rfl, rfl⟩
    go_wp2_with fail
    refine (S4.out _).mono ?_
    rintro e w5 ⟨rfl, rfl⟩
    have K4 : Hid (Below w.heap.size w (w3.alloc (.cells #[.int .i64 E, .int .i64 B, .int .i64 L] 27))) := K3.out.alloc z3 _
    have C4 : Hid (Code8 _ _ a len) := Code8.later C.out K4.out
    clear S3 S4 q0 q1 q2
    go_wp2_with fail
    refine (drawWide_any C4.out).mono ?_
    rintro e w6 ⟨x, y, rfl, x0, x1, y0, y1, k6⟩
    have K6 : Hid (Below w.heap.size w w6) := K4.out.trans (k6.mono K4.out.size)
    have z6 := K6.out.size
    clear k6 K3 K4 C4 z3 l3
    obtain ⟨lo, hi, hw⟩ : ∃ lo hi, wd x y = (lo, hi) := ⟨_, _, rfl⟩
    have s1 := implWide_any x y
    have s2 := specWide_any x y
    have W1 : Hid (bokB x y = false → lo = 0 ∧ hi = 0) := fun h => by have := wd_none h; rw [hw] at this; simpa using this
    have W2 : Hid (bokB x y = true → lo ≤ x ∧ y ≤ hi ∧ 0 ≤ lo ∧ hi ≤ 4096 ∧ exB lo hi = true ∧ (hi - lo ≤ y - x + 126 ∨ hi - lo = 4096)) := fun h => by have := wd_all h; rw [hw] at this; exact this
    simp only [hw] at s1 s2
    have S1 : Hid _ := s1
    have S2 : Hid _ := s2
    clear s1 s2 hw
    go_wp2_with fail
    refine (S1.out _).mono ?_
    rintro e w7 ⟨rfl, k7⟩
    have K7 : Hid (Below w.heap.size w w7) := K6.out.trans (k7.mono z6)
    have z7 := K7.out.size
    clear k7 K6 z6
    go_wp2_with fail
    refine (S2.out _).mono ?_
    rintro e w8 ⟨rfl, k8⟩
    have K8 : Hid (Below w.heap.size w w8) := K7.out.trans (k8.mono z7)
    have z8 := K8.out.size
    clear k8 K7 z7 S1 S2
    go_wp2_with fail
    refine (drawExact_any (Code8.later C.out K8.out)).mono ?_
    rintro e w9 ⟨e1, f1, rfl, k9⟩
    have K9 : Hid (Below w.heap.size w w9) := K8.out.trans (k9.mono z8)
    have z9 := K9.out.size
    clear k9 K8 z8
    go_wp2_with fail
    refine (drawBoundsOk_any (Code8.later C.out K9.out)).mono ?_
    rintro e w10 ⟨g1, i1, rfl, k10⟩
    have K10 : Hid (Below w.heap.size w w10) := K9.out.trans (k10.mono z9)
    have z10 := K10.out.size
    clear k10 K9 z9
    obtain ⟨o2, t2⟩ : ∃ o2, o2 = exB e1 f1 := ⟨_, rfl⟩
    have s1 := implExact_any e1 f1
    have s2 := specExact_any e1 f1
    rw [← t2] at s1 s2
    have S1 : Hid _ := s1
    have S2 : Hid _ := s2
    clear s1 s2 t2
    go_wp2_with fail
    refine (S1.out _).mono ?_
    rintro e w11 ⟨rfl, k11⟩
    have K11 : Hid (Below w.heap.size w w11) := K10.out.trans (k11.mono z10)
    have z11 := K11.out.size
    clear k11 K10 z10
    go_wp2_with fail
    refine (S2.out _).mono ?_
    rintro e w12 ⟨rfl, k12⟩
    have K12 : Hid (Below w.heap.size w w12) := K11.out.trans (k12.mono z11)
    have z12 := K12.out.size
    clear k12 K11 z11 S1 S2
    obtain ⟨o3, t3⟩ : ∃ o3, o3 = bokB g1 i1 := ⟨_, rfl⟩
    have s3 := implBounds_any g1 i1
    have s4 := specBounds_any g1 i1
    rw [← t3] at s3 s4
    have S3 : Hid _ := s3
    have S4 : Hid _ := s4
    clear s3 s4 t3
    go_wp2_with fail
    refine (S3.out _).mono ?_
    rintro e w13 ⟨rfl, rfl⟩
    go_wp2_with fail
    refine (S4.out _).mono ?_
    rintro e w14 ⟨rfl, rfl⟩
    clear S3 S4
    go_wp2_with fail
    refine (drawUnpack_any (Code8.later C.out K12.out)).mono ?_
    rintro e w15 ⟨u1, u2, u3, rfl, k15⟩
    have K15 : Hid (Below w.heap.size w w15) := K12.out.trans (k15.mono z12)
    have z15 := K15.out.size
    clear k15 K12 z12 C eg n1 n2
    have U : Hid (pokB u1 u2 u3 = true → bokB (upN u1 u2 u3).1 (upN u1 u2 u3).2 = true) := up_bok u1 u2 u3
    have s1 := implUnpack_any u1 u2 u3
    have s2 := specUnpack_any u1 u2 u3
    simp only [up_eq] at s1 s2
    generalize upN u1 u2 u3 = p at s1 s2 U
    obtain ⟨c, d⟩ := p
    generalize pokB u1 u2 u3 = fine at s1 s2 U
    simp only at s1 s2 U
    have S1 : Hid _ := s1
    have S2 : Hid _ := s2
    clear s1 s2
    go_wp2_with fail
    refine (S1.out _).mono ?_
    rintro e w16 ⟨rfl, k16⟩
    have K16 : Hid (Below w.heap.size w w16) := (K15.out.alloc z15 _).trans (k16.mono (by simp; omega))
    have T16 : Three w16 w15.heap.size u1 u2 u3 := (Three.new w15 u1 u2 u3 27).keep (q := w16.heap.size) (KeepBut.ofBelow k16) (by have := k16.size; simp at this; omega)
    obtain ⟨l16, c0, c1, c2, _, _, _⟩ := T16
    have z16 := K16.out.size
    clear k16 K15 z15
    go_wp2_with fail
    refine (S2.out _).mono ?_
    rintro e w17 ⟨rfl, k17⟩
    have K17 : Hid (Below w.heap.size w w17) := K16.out.trans (k17.mono z16)
    have z17 := K17.out.size
    clear k17 K16 z16 c0 c1 c2 l16 S1 S2
    have s3 := implBounds_any c d
    have s4 := specBounds_any x y
    have X : Hid _ := implExact_any lo hi
    cases fine
    all_goals
      have hU := U.out
      simp only [Bool.false_eq_true, false_implies, forall_const] at hU
      try rw [hU] at s3
      have S3 : Hid _ := s3
      clear s3 U hU
      cases hbx : bokB x y
      · rw [hbx] at s4
        have S4 : Hid _ := s4
        obtain ⟨rfl, rfl⟩ := W1.out hbx
        clear s4 hbx W1 W2
        go_wp2_with (go_at_call 8; refine (S3.out _).mono ?_; rintro e w18 ⟨rfl, rfl⟩)
        refine (S4.out _).mono ?_
        rintro e w19 ⟨rfl, rfl⟩
        go_wp2
        go_ret
        exact ⟨rfl, K17.out⟩
      · rw [hbx] at s4
        have S4 : Hid _ := s4
        obtain ⟨h1, h2, h3, h4, h5, h6⟩ := W2.out hbx
        have x2 := X.out
        rw [h5] at x2
        have X2 : Hid _ := x2
        obtain ⟨bx0, bx1, bx2⟩ := bok_of hbx
        clear s4 hbx W1 W2 x2 X h5
        go_wp2_with (go_at_call 8; refine (S3.out _).mono ?_; rintro e w18 ⟨rfl, rfl⟩)
        refine (S4.out _).mono ?_
        rintro e w19 ⟨rfl, rfl⟩
        rcases h6 with h6 | h6
        all_goals
          go_wp2_with fail
          refine (X2.out _).mono ?_
          rintro e w20 ⟨rfl, k20⟩
          have K20 : Hid _ := K17.out.trans (k20.mono z17)
          clear k20
          go_wp2
          all_goals
            go_ret
            exact ⟨rfl, K20.out⟩
end Go.Proofs.Ytkfnllgjgikkeab
