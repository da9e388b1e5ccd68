/- Try of the specification at all words: what it answers. No condition. -/
import Derived.Test.YtpkhnajhamnggaaDoorOpen
namespace Go.Proofs.YtpkhnajhamnggaaDoor
open Go.ChangeShapes Go.WideShapes Go.ChangeAt Go.RowKit

/-- What Try answers, by the four questions in their order. -/
def trapZ (c0 c1 c2 c3 : Bool) : Int := bif c0 then (bif c1 then 2 else bif c2 then (bif c3 then 0 else 4) else 3) else 1
/-- What Try answers. -/
def tryZ (n : Int) (i : Bool) (b t p s m q : Int) : Int := trapZ (rkB n i b t p s) (s != 0) (bits .and .i64 p q == q) (decide (b ≤ m ∧ m < t))

set_option maxRecDepth 100000 in
set_option maxHeartbeats 2000000 in
theorem specTry_any (n : Int) (i : Bool) (b t p s m q : Int) (w : World) :
    Calls Tryd.prog 11 #[.agg #[.int .i64 n, .bool i, .int .i64 b, .int .i64 t, .int .i64 p, .int .i64 s], .int .i64 m, .int .i64 q] w fun e w' => e = .returned (.int .i64 (tryZ n i b t p s m q)) ∧ Below w.heap.size w w' := by
  have s1 := specWordOk_any n i b t p s
  unfold tryZ rkB
  generalize wokB n i b t p s = x at s1 ⊢
  have S1 : Hid _ := s1
  clear s1
  go_enter Tryd.func11, Tryd.ntmps11
  go_wp2_with fail
  refine (S1.out _).mono ?_
  rintro e w1 ⟨rfl, hb1⟩
  have A1 := (Six.new w n i b t p s 36).below hb1
  have K1 : Hid (Below w.heap.size w w1) := ((Below.refl _ w).alloc (Nat.le_refl _) _).trans (hb1.mono (by simp))
  obtain ⟨_, c0, c1, c2, c3, c4, c5, _, _, _, _, _, _⟩ := A1
  clear hb1 S1
  cases x
  · go_wp2
    go_ret
    exact ⟨rfl, K1.out⟩
  cases i
  · go_wp2
    go_ret
    exact ⟨rfl, K1.out⟩
  by_cases hs : s = 0
  case neg =>
    have h1 : (s != 0) = true := by simp [hs]
    go_wp2
    go_ret
    exact ⟨by simp [trapZ, h1], K1.out⟩
  subst hs
  by_cases hp : bits .and .i64 p q = q
  case neg =>
    have h2 : (bits .and .i64 p q == q) = false := by simp [hp]
    go_wp2
    go_ret
    exact ⟨by simp [trapZ, h2], K1.out⟩
  have h2 : (bits .and .i64 p q == q) = true := by simp [hp]
  by_cases h3 : m < b
  · have h4 : decide (b ≤ m ∧ m < t) = false := by simp; omega
    go_wp2
    go_ret
    exact ⟨by simp [trapZ, h2, h4], K1.out⟩
  by_cases h5 : t ≤ m
  · have h4 : decide (b ≤ m ∧ m < t) = false := by simp; omega
    go_wp2
    go_ret
    exact ⟨by simp [trapZ, h2, h4], K1.out⟩
  · have h4 : decide (b ≤ m ∧ m < t) = true := by simp; omega
    go_wp2
    go_ret
    exact ⟨by simp [trapZ, h2, h4], K1.out⟩
end Go.Proofs.YtpkhnajhamnggaaDoor
