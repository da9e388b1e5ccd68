/- Who is open and who may seal: l4Open, l4Sealer of the specification, rightKey, maySeal of the program, at all words. No condition. -/
import Derived.Test.YtpkhnajhamnggaaDoorWordX
import Derived.Test.YtpkhnajhamnggaaDoorKSame
namespace Go.Proofs.YtpkhnajhamnggaaDoor
open Go.ChangeShapes Go.WideShapes Go.ChangeAt Go.RowKit

/-- A word that is right and a key. -/
def rkB (n : Int) (i : Bool) (b t p s : Int) : Bool := wokB n i b t p s && i
/-- .. and not sealed. -/
def openB (n : Int) (i : Bool) (b t p s : Int) : Bool := rkB n i b t p s && (s == 0)
/-- .. and that may seal. -/
def mayB (n : Int) (i : Bool) (b t p s : Int) : Bool :=
  openB n i b t p s && ((bits .and .i64 p 32 == 32) && (decide (b ≤ n ∧ n < t) && decide (1 ≤ n ∧ n ≤ 7)))

theorem and32 (p : Int) : bits .and .i64 p 32 = 0 ∨ bits .and .i64 p 32 = 32 := by
  have h5 : (BitVec.ofInt 64 32) = BitVec.twoPow 64 5 := by decide
  show IntKind.i64.wrap ((BitVec.ofInt 64 p &&& BitVec.ofInt 64 32).toNat : Nat) = 0 ∨ IntKind.i64.wrap ((BitVec.ofInt 64 p &&& BitVec.ofInt 64 32).toNat : Nat) = 32
  rw [h5, BitVec.and_twoPow]
  split
  · right; decide
  · left; decide
theorem and32_ne (p : Int) : (bits .and .i64 p 32 != 0) = (bits .and .i64 p 32 == 32) := by
  rcases and32 p with h | h <;> rw [h] <;> decide

set_option maxHeartbeats 400000 in
theorem sealed_any (b t p s : Int) (w : World) :
    Calls Tryd.prog 31 #[.agg #[.int .i64 b, .int .i64 t, .int .i64 p, .int .i64 s]] w fun e w' => e = .returned (.bool (s != 0)) ∧ Below w.heap.size w w' := by
  go_enter Tryd.func31, Tryd.ntmps31
  go_wp2
  go_ret
  exact ⟨rfl, (Below.refl _ _).alloc (Nat.le_refl _) _⟩

set_option maxHeartbeats 400000 in
theorem opens_any (b t p s x : Int) (w : World) :
    Calls Tryd.prog 33 #[.agg #[.int .i64 b, .int .i64 t, .int .i64 p, .int .i64 s], .int .i64 x] w fun e w' => e = .returned (.bool (decide (b ≤ x ∧ x < t))) ∧ Below w.heap.size w w' := by
  by_cases h0 : b ≤ x <;> by_cases h1 : x < t
  all_goals
    go_enter Tryd.func33, Tryd.ntmps33
    go_wp2
    go_ret
    exact ⟨by simp [h0, h1], (Below.refl _ _).alloc (Nat.le_refl _) _⟩

set_option maxHeartbeats 1000000 in
theorem rightKey_any (n : Int) (i : Bool) (b t p s : Int) (w : World) :
    Calls Tryd.prog 30 #[.agg #[.int .i64 n, .bool i, .int .i64 b, .int .i64 t, .int .i64 p, .int .i64 s]] w fun e w' => e = .returned (.bool (rkB n i b t p s)) ∧ Below w.heap.size w w' := by
  have s1 := implWordOk_any n i b t p s
  unfold rkB
  generalize wokB n i b t p s = x at s1 ⊢
  have S1 : Hid _ := s1
  clear s1
  go_enter Tryd.func30, Tryd.ntmps30
  go_wp2_with fail
  refine (S1.out _).mono ?_
  rintro e w1 ⟨rfl, hb1⟩
  have A1 := (Six.new w n i b t p s 36).below hb1
  have K1 : Hid (Below w.heap.size w w1) := ((Below.refl _ w).alloc (Nat.le_refl _) _).trans (hb1.mono (by simp))
  obtain ⟨_, c0, c1, c2, c3, c4, c5, _, _, _, _, _, _⟩ := A1
  clear hb1 S1
  cases x <;> cases i
  all_goals
    go_wp2
    go_ret
    exact ⟨rfl, K1.out⟩

end Go.Proofs.YtpkhnajhamnggaaDoor
