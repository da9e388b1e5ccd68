/- InsOk, Word32 and Sets of the specification at all places: what they answer. No condition. -/
import Derived.Test.YtpkhnajhamnggaaDoorIns
namespace Go.Proofs.YtpkhnajhamnggaaDoor
open Go.ChangeShapes Go.WideShapes Go.ChangeAt Go.RowKit

/-- Whether an op has what the bit k stands for. -/
def bitB (o k : Int) : Bool := bits .and .i64 (hasZ o) k != 0
/-- What InsOk answers. -/
def iokB (o r a b n : Int) : Bool :=
  decide (1 ≤ o ∧ o ≤ 15) && (fldB r (bitB o 1) && (fldB a (bitB o 2) && (fldB b (bitB o 4) && (decide (-128 ≤ n ∧ n ≤ 127) && (bitB o 8 || n == 0)))))

set_option maxRecDepth 100000 in
set_option maxHeartbeats 4000000 in
theorem specInsOk_any (o r a b n : Int) (w : World) :
    Calls Tryd.prog 13 #[.agg #[.int .i64 o, .int .i64 r, .int .i64 a, .int .i64 b, .int .i64 n]] w fun e w' => e = .returned (.bool (iokB o r a b n)) ∧ Below w.heap.size w w' := by
  have s0 := hasI_any o
  unfold iokB bitB
  generalize hasZ o = h at s0 ⊢
  have s1 := lin_any o 1 15
  have s2 := field_any r (bits .and .i64 h 1 != 0)
  have s3 := field_any a (bits .and .i64 h 2 != 0)
  have s4 := field_any b (bits .and .i64 h 4 != 0)
  have s5 := lin_any n (-128) 127
  generalize decide (1 ≤ o ∧ o ≤ 15) = y1 at s1 ⊢
  generalize fldB r (bits .and .i64 h 1 != 0) = y2 at s2 ⊢
  generalize fldB a (bits .and .i64 h 2 != 0) = y3 at s3 ⊢
  generalize fldB b (bits .and .i64 h 4 != 0) = y4 at s4 ⊢
  generalize decide (-128 ≤ n ∧ n ≤ 127) = y5 at s5 ⊢
  have S0 : Hid _ := s0
  have S1 : Hid _ := s1
  have S2 : Hid _ := s2
  have S3 : Hid _ := s3
  have S4 : Hid _ := s4
  have S5 : Hid _ := s5
  clear s0 s1 s2 s3 s4 s5
  go_enter Tryd.func13, Tryd.ntmps13
  go_wp2_with fail
  refine (S0.out _).mono ?_
  rintro e w1 ⟨rfl, hb1⟩
  have K1 : Hid (Below w.heap.size w w1) := ((Below.refl _ w).alloc (Nat.le_refl _) _).trans (hb1.mono (by simp))
  obtain ⟨_, c0, c1, c2, c3, c4, _, _, _, _, _⟩ := (Five.new w o r a b n 29).below hb1
  clear hb1 S0
  go_wp2_with fail
  refine (S1.out _).mono ?_
  rintro e w' ⟨rfl, rfl⟩
  cases y1
  · go_wp2
    go_ret
    exact ⟨rfl, K1.out⟩
  go_wp2_with fail
  refine (S2.out _).mono ?_
  rintro e w' ⟨rfl, rfl⟩
  cases y2
  · go_wp2
    go_ret
    exact ⟨rfl, K1.out⟩
  go_wp2_with fail
  refine (S3.out _).mono ?_
  rintro e w' ⟨rfl, rfl⟩
  cases y3
  · go_wp2
    go_ret
    exact ⟨rfl, K1.out⟩
  go_wp2_with fail
  refine (S4.out _).mono ?_
  rintro e w' ⟨rfl, rfl⟩
  cases y4
  · go_wp2
    go_ret
    exact ⟨rfl, K1.out⟩
  go_wp2_with fail
  refine (S5.out _).mono ?_
  rintro e w' ⟨rfl, rfl⟩
  cases y5
  · go_wp2
    go_ret
    exact ⟨rfl, K1.out⟩
  cases h8 : (bits .and .i64 h 8 != 0)
  · go_wp2
    go_ret
    exact ⟨by simp [h8], K1.out⟩
  · go_wp2
    go_ret
    exact ⟨by simp [h8], K1.out⟩

/-- What Word32 answers of a place that is right. -/
def w32Z (o r a b n : Int) : Int := o + 16 * r + 128 * a + 1024 * b + 8192 * (n + 128)
theorem iok_range {o r a b n : Int} (h : iokB o r a b n = true) : 1 ≤ o ∧ o ≤ 15 ∧ 0 ≤ r ∧ r ≤ 7 ∧ 0 ≤ a ∧ a ≤ 7 ∧ 0 ≤ b ∧ b ≤ 7 ∧ -128 ≤ n ∧ n ≤ 127 := by
  simp only [iokB, fldB, Bool.and_eq_true, decide_eq_true_eq] at h
  omega

/-- What Sets answers. -/
def setZ (o r : Int) : Int := bif bitB o 1 then r else -1
end Go.Proofs.YtpkhnajhamnggaaDoor
