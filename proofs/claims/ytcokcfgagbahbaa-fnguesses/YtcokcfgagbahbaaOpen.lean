/- Who is open and who may seal: l4Open, l4Sealer of the specification, rightKey, maySeal of the program, at all words. No condition. -/
import Derived.Test.YtcokcfgagbahbaaWordX
import Derived.Test.YtcokcfgagbahbaaKSame
namespace Go.Proofs.Ytcokcfgagbahbaa
open Go.ChangeShapes Go.WideShapes Go.ChangeAt Go.RowKit

/-- A word that is right and a key. -/
def rkB (n : Int) (i : Bool) (b t p s : Int) : Bool := wokB n i b t p s && i
/-- .. and not sealed. -/
def openB (n : Int) (i : Bool) (b t p s : Int) : Bool := rkB n i b t p s && (s == 0)
/-- .. and that may seal. -/
def mayB (n : Int) (i : Bool) (b t p s : Int) : Bool :=
  openB n i b t p s && ((bits .and .i64 p 32 == 32) && (decide (b ≤ n ∧ n < t) && decide (1 ≤ n ∧ n ≤ 7)))

theorem and32 (p : Int) : bits .and .i64 p 32 = 0 ∨ bits .and .i64 p 32 = 32 := by
  have h5 : (BitVec.ofInt 64 32) = BitVec.twoPow 64 5 := by decide
  show IntKind.i64.wrap ((BitVec.ofInt 64 p &&& BitVec.ofInt 64 32).toNat : Nat) = 0 ∨ IntKind.i64.wrap ((BitVec.ofInt 64 p &&& BitVec.ofInt 64 32).toNat : Nat) = 32
  rw [h5, BitVec.and_twoPow]
  split
  · right; decide
  · left; decide
theorem and32_ne (p : Int) : (bits .and .i64 p 32 != 0) = (bits .and .i64 p 32 == 32) := by
  rcases and32 p with h | h <;> rw [h] <;> decide

set_option maxHeartbeats 400000 in
theorem sealed_any (b t p s : Int) (w : World) :
    Calls Try.prog 87 #[.agg #[.int .i64 b, .int .i64 t, .int .i64 p, .int .i64 s]] w fun e w' => e = .returned (.bool (s != 0)) ∧ Below w.heap.size w w' := by
  go_enter Try.func87, Try.ntmps87
  go_wp2
  go_ret
  exact ⟨rfl, (Below.refl _ _).alloc (Nat.le_refl _) _⟩

set_option maxHeartbeats 400000 in
theorem opens_any (b t p s x : Int) (w : World) :
    Calls Try.prog 104 #[.agg #[.int .i64 b, .int .i64 t, .int .i64 p, .int .i64 s], .int .i64 x] w fun e w' => e = .returned (.bool (decide (b ≤ x ∧ x < t))) ∧ Below w.heap.size w w' := by
  by_cases h0 : b ≤ x <;> by_cases h1 : x < t
  all_goals
    go_enter Try.func104, Try.ntmps104
    go_wp2
    go_ret
    exact ⟨by simp [h0, h1], (Below.refl _ _).alloc (Nat.le_refl _) _⟩

set_option maxHeartbeats 1000000 in
theorem rightKey_any (n : Int) (i : Bool) (b t p s : Int) (w : World) :
    Calls Try.prog 58 #[.agg #[.int .i64 n, .bool i, .int .i64 b, .int .i64 t, .int .i64 p, .int .i64 s]] w fun e w' => e = .returned (.bool (rkB n i b t p s)) ∧ Below w.heap.size w w' := by
  have s1 := implWordOk_any n i b t p s
  unfold rkB
  generalize wokB n i b t p s = x at s1 ⊢
  have S1 : Hid _ := s1
  clear s1
  go_enter Try.func58, Try.ntmps58
  go_wp2_with fail
  refine (S1.out _).mono ?_
  rintro e w1 ⟨rfl, hb1⟩
  have A1 := (Six.new w n i b t p s 28).below hb1
  have K1 : Hid (Below w.heap.size w w1) := ((Below.refl _ w).alloc (Nat.le_refl _) _).trans (hb1.mono (by simp))
  obtain ⟨_, c0, c1, c2, c3, c4, c5, _, _, _, _, _, _⟩ := A1
  clear hb1 S1
  cases x <;> cases i
  all_goals
    go_wp2
    go_ret
    exact ⟨rfl, K1.out⟩

set_option maxHeartbeats 1000000 in
theorem l4Open_any (n : Int) (i : Bool) (b t p s : Int) (w : World) :
    Calls Try.prog 50 #[.agg #[.int .i64 n, .bool i, .int .i64 b, .int .i64 t, .int .i64 p, .int .i64 s]] w fun e w' => e = .returned (.bool (openB n i b t p s)) ∧ Below w.heap.size w w' := by
  have s1 := specWordOk_any n i b t p s
  unfold openB rkB
  generalize wokB n i b t p s = x at s1 ⊢
  have S1 : Hid _ := s1
  clear s1
  go_enter Try.func50, Try.ntmps50
  go_wp2_with fail
  refine (S1.out _).mono ?_
  rintro e w1 ⟨rfl, hb1⟩
  have A1 := (Six.new w n i b t p s 28).below hb1
  have K1 : Hid (Below w.heap.size w w1) := ((Below.refl _ w).alloc (Nat.le_refl _) _).trans (hb1.mono (by simp))
  obtain ⟨_, c0, c1, c2, c3, c4, c5, _, _, _, _, _, _⟩ := A1
  clear hb1 S1
  cases x <;> cases i
  all_goals
    go_wp2
    go_ret
    exact ⟨rfl, K1.out⟩

set_option maxRecDepth 100000 in
set_option maxHeartbeats 2000000 in
theorem maySeal_any (n : Int) (i : Bool) (b t p s : Int) (w : World) :
    Calls Try.prog 91 #[.agg #[.int .i64 n, .bool i, .int .i64 b, .int .i64 t, .int .i64 p, .int .i64 s]] w fun e w' => e = .returned (.bool (mayB n i b t p s)) ∧ Below w.heap.size w w' := by
  have s1 := rightKey_any n i b t p s
  have s2 := sealed_any b t p s
  have s3 := has_any b t p s 32
  have s4 := opens_any b t p s n
  have hy : decide (1 ≤ n ∧ n ≤ 7) = (decide (1 ≤ n) && decide (n ≤ 7)) := by simp
  have hs : (s == 0) = !(s != 0) := by cases h : s == 0 <;> simp [bne, h]
  unfold mayB openB
  rw [hy, hs]
  clear hy hs
  generalize rkB n i b t p s = x at s1 ⊢
  generalize (s != 0) = y at s2 ⊢
  generalize (bits .and .i64 p 32 == 32) = z at s3 ⊢
  generalize decide (b ≤ n ∧ n < t) = v at s4 ⊢
  have S1 : Hid _ := s1
  have S2 : Hid _ := s2
  have S3 : Hid _ := s3
  have S4 : Hid _ := s4
  clear s1 s2 s3 s4
  go_enter Try.func91, Try.ntmps91
  go_wp2_with fail
  refine (S1.out _).mono ?_
  rintro e w1 ⟨rfl, hb1⟩
  have A1 : Hid _ := (Six.new w n i b t p s 28).below hb1
  have K1 : Hid (Below w.heap.size w w1) := ((Below.refl _ w).alloc (Nat.le_refl _) _).trans (hb1.mono (by simp))
  clear hb1 S1
  cases x
  · go_wp2
    go_ret
    exact ⟨rfl, K1.out⟩
  obtain ⟨_, c0, c1, c2, c3, c4, c5, _, _, _, _, _, _⟩ := A1.out
  go_wp2_with fail
  refine (S2.out _).mono ?_
  rintro e w2 ⟨rfl, hb2⟩
  have A2 : Hid _ := A1.out.below hb2
  have K2 : Hid (Below w.heap.size w w2) := K1.out.trans (hb2.mono K1.out.size)
  clear hb2 A1 K1 S2 c0 c1 c2 c3 c4 c5
  cases y
  case true =>
    go_wp2
    go_ret
    exact ⟨rfl, K2.out⟩
  obtain ⟨_, c0, c1, c2, c3, c4, c5, _, _, _, _, _, _⟩ := A2.out
  go_wp2_with fail
  refine (S3.out _).mono ?_
  rintro e w3 ⟨rfl, hb3⟩
  have A3 : Hid _ := A2.out.below hb3
  have K3 : Hid (Below w.heap.size w w3) := K2.out.trans (hb3.mono K2.out.size)
  clear hb3 A2 K2 S3 c0 c1 c2 c3 c4 c5
  cases z
  · go_wp2
    go_ret
    exact ⟨rfl, K3.out⟩
  obtain ⟨_, c0, c1, c2, c3, c4, c5, _, _, _, _, _, _⟩ := A3.out
  go_wp2_with fail
  refine (S4.out _).mono ?_
  rintro e w4 ⟨rfl, hb4⟩
  have A4 : Hid _ := A3.out.below hb4
  have K4 : Hid (Below w.heap.size w w4) := K3.out.trans (hb4.mono K3.out.size)
  clear hb4 A3 K3 S4 c0 c1 c2 c3 c4 c5
  cases v
  · go_wp2
    go_ret
    exact ⟨rfl, K4.out⟩
  obtain ⟨_, c0, c1, c2, c3, c4, c5, _, _, _, _, _, _⟩ := A4.out
  cases d0 : decide (1 ≤ n) <;> cases d1 : decide (n ≤ 7)
  all_goals
    go_wp2
    go_ret
    exact ⟨by simp [d0, d1], K4.out⟩
end Go.Proofs.Ytcokcfgagbahbaa
